/-
  Lens and freqs in the specification: what may be, and what lens cost.
-/
import Derived.Test.YtcbaiagkdphkeaaBestPure3
import Derived.Test.YtcbaiagkdphkeaaBetween
namespace Go.Proofs.Ytcbaiagkdphkeaa
open Go.RowKit

theorem krS_take {xs : List Int} {k : Nat} (hk : k < xs.length) : krS (xs.take (k + 1)) = krS (xs.take k) + kr (xs.getD k 0) := by
  have h1 : (xs.take (k + 1)).length = k + 1 := by simp; omega
  have h2 : (xs.take k).length = k := by simp; omega
  unfold krS
  rw [h1, h2, sumF_back]
  congr 1
  · exact sumF_congr _ _ _ (fun i hi => by simp [hi, show i < k + 1 by omega])
  · simp
theorem kr_le (x : Int) : kr x ≤ 65536 := by
  unfold kr
  split
  · have : 2 ^ (16 - x.toNat) ≤ 2 ^ 16 := Nat.pow_le_pow_right (by omega) (by omega)
    omega
  · omega
theorem krS_bound : ∀ xs : List Int, krS xs ≤ xs.length * 65536
  | [] => Nat.le_refl _
  | x :: xs => by
    have h1 := krS_bound xs
    have h2 := kr_le x
    have e : krS (x :: xs) = kr x + krS xs := rfl
    rw [e, List.length_cons]
    omega
theorem all_takeP {f : Int → Bool} {xs : List Int} {k : Nat} (hk : k < xs.length) : (xs.take (k + 1)).all f = ((xs.take k).all f && f (xs.getD k 0)) := by
  rw [List.take_succ_eq_append_getElem hk, List.all_append]
  simp [hk]
theorem all_noP {f : Int → Bool} {xs : List Int} {k : Nat} (hk : k < xs.length) (h : f (xs.getD k 0) = false) : xs.all f = false := by
  cases hx : xs.all f with
  | false => rfl
  | true => rw [all_get hx k hk] at h; exact h
theorem pow_fit8 {k : Nat} (h : k ≤ 16) : 1 ≤ (2 : Int) ^ k ∧ (2 : Int) ^ k ≤ 65536 := by
  have h1 : (2 : Nat) ^ k ≤ 2 ^ 16 := Nat.pow_le_pow_right (by omega) h
  have h2 : 0 < (2 : Nat) ^ k := Nat.two_pow_pos _
  have h3 : ((2 ^ k : Nat) : Int) = (2 : Int) ^ k := by simp
  omega

set_option maxHeartbeats 1600000 in
theorem specLensOk (ao : Option Addr) (n cap : Nat) (xs : List Int) (w : World) (hr : Rd .i64 w ao n xs) (b : Bool) (HB : Hid (lensB xs = b)) :
    Calls Try.prog 14 #[.slice ao n cap] w fun e w' => e = .returned (.bool b) ∧ w' = w := by
  have hl := hr.1
  have HR := hide hr
  clear hr
  by_cases hn : n ≤ 256
  · have hd : decide ((256 : Int) < (n : Int)) = false := decide_eq_false (by omega)
    go_enter Try.func14, Try.ntmps14
    go_wp2
    go_loopw [3, 4] (fun s i wr => ∃ (k t : Nat), k ≤ n ∧ t ≤ 16777216 ∧ i = .int .i64 k ∧ s = .int .i64 t ∧ Hid ((xs.take k).all lenB = true) ∧ Hid (krS (xs.take k) = t) ∧ wr = w) (fun _ i _ => n - (intOf i).toNat)
    case atStart => exact ⟨0, 0, Nat.zero_le _, Nat.zero_le _, rfl, rfl, rfl, rfl, rfl⟩
    case round =>
      obtain ⟨k, t, hk, ht, rfl, rfl, ha, hs, rfl⟩ := hrel
      by_cases hlt : k < n
      · obtain ⟨bb, off, rfl, hc⟩ := (unhide HR).2 k hlt
        have hal := all_takeP (f := lenB) (xs := xs) (k := k) (by omega)
        have hno := all_noP (f := lenB) (xs := xs) (k := k) (by omega)
        have hkr := krS_take (xs := xs) (k := k) (by omega)
        have hbd := krS_bound (xs.take (k + 1))
        have hbl : (xs.take (k + 1)).length = k + 1 := by simp; omega
        rw [hkr, unhide hs, hbl] at hbd
        generalize xs.getD k 0 = x at *
        cases hx : lenB x with
        | true =>
          have hx2 : 0 ≤ x ∧ x ≤ 16 := of_decide_eq_true hx
          have HD : Hid (decide (0 ≤ x ∧ x ≤ 16) = true) := hx
          have hA : (xs.take (k + 1)).all lenB = true := by rw [hal, unhide ha, hx]; rfl
          have HA := hide hA
          obtain ⟨l, rfl⟩ := Int.eq_ofNat_of_zero_le hx2.1
          by_cases h0 : 0 < l
          · have hd0 : decide ((0 : Int) < (l : Int)) = true := decide_eq_true (by omega)
            have hkl : kr (l : Int) = 2 ^ (16 - l) := by unfold kr; rw [if_pos (by omega), Int.toNat_natCast]
            have HS2 : Hid (krS (xs.take (k + 1)) = t + 2 ^ (16 - l)) := by unfold Hid; rw [hkr, unhide hs, hkl]
            have hkk : ((16 : Int) - (l : Int)).toNat = 16 - l := by omega
            have e4 := i64_in ((16 : Int) - (l : Int)) (by omega)
            have hp := pow_fit8 (k := 16 - l) (by omega)
            have hpc : ((2 ^ (16 - l) : Nat) : Int) = (2 : Int) ^ (16 - l) := by simp
            rw [hkl] at hbd
            obtain ⟨P, hP⟩ : ∃ P : Nat, 2 ^ (16 - l) = P := ⟨_, rfl⟩
            rw [hP] at HS2 hpc hbd
            have e3 := i64_in ((P : Int)) (by omega)
            have e5 := i64_in ((t : Int) + (P : Int)) (by omega)
            have hpc2 : (2 : Int) ^ (16 - l) = (P : Int) := hpc.symm
            clear hA ha hal hno hx hs hkr hkl hP hpc hp
            go_wp2_with fail
            refine (between (l : Int) 0 16 true HD wr).mono ?_
            rintro e w1 ⟨rfl, rfl⟩
            go_wp2
            go_roundw
            case rel => exact ⟨k + 1, t + P, by omega, by omega, by go_num, by go_num, HA, HS2, trivial⟩
            case measure => simp [intOf]; omega
          · obtain rfl : l = 0 := by omega
            have HS2 : Hid (krS (xs.take (k + 1)) = t) := by unfold Hid; rw [hkr, unhide hs]; rfl
            clear hA ha hal hno hx hs hkr hbd
            go_wp2_with fail
            refine (between 0 0 16 true HD wr).mono ?_
            rintro e w1 ⟨rfl, rfl⟩
            go_wp2
            go_roundw
            case rel => exact ⟨k + 1, t, by omega, by omega, by go_num, rfl, HA, HS2, trivial⟩
            case measure => simp [intOf]; omega
        | false =>
          have HD : Hid (decide (0 ≤ x ∧ x ≤ 16) = false) := hx
          have hb : b = false := by rw [← unhide HB, lensB, hno hx, Bool.and_false, Bool.false_and]
          subst hb
          clear ha hal hno hx hs hkr hbd
          go_wp2_with fail
          refine (between x 0 16 false HD wr).mono ?_
          rintro e w1 ⟨rfl, rfl⟩
          go_wp2
          go_ret
          exact ⟨rfl, rfl⟩
      · obtain rfl : k = n := by omega
        have hb : b = decide (0 < (t : Int) ∧ (t : Int) ≤ 65536) := by
          have h := unhide ha
          have h2 := unhide hs
          rw [← hl, List.take_length] at h h2
          rw [← unhide HB, lensB, h, hl, decide_eq_true hn, h2, Bool.true_and, Bool.true_and]
          exact decide_eq_decide.2 ⟨fun h => by omega, fun h => by omega⟩
        by_cases h1 : 0 < (t : Int)
        · have hd1 : decide ((0 : Int) < (t : Int)) = true := decide_eq_true h1
          by_cases h2 : (t : Int) ≤ 65536
          · have hb2 : b = true := by rw [hb]; exact decide_eq_true ⟨h1, h2⟩
            subst hb2
            clear hb
            go_wp2
            go_ret
            exact ⟨ret_bool (by simp), rfl⟩
          · have hb2 : b = false := by rw [hb]; exact decide_eq_false (fun h => h2 h.2)
            subst hb2
            clear hb
            go_wp2
            go_ret
            exact ⟨ret_bool (by simp), rfl⟩
        · have hb2 : b = false := by rw [hb]; exact decide_eq_false (fun h => h1 h.1)
          have hd1 : decide ((0 : Int) < (t : Int)) = false := decide_eq_false h1
          subst hb2
          clear hb
          go_wp2
          go_ret
          exact ⟨rfl, rfl⟩
  · have hb : b = false := by rw [← unhide HB, lensB, hl, decide_eq_false hn]; rfl
    subst hb
    have hd : decide ((256 : Int) < (n : Int)) = true := decide_eq_true (by omega)
    go_enter Try.func14, Try.ntmps14
    go_wp2
    go_ret
    exact ⟨rfl, rfl⟩

set_option maxHeartbeats 1600000 in
theorem specFreqs (ao : Option Addr) (n cap : Nat) (xs : List Int) (w : World) (hr : Rd .i64 w ao n xs) (b : Bool) (HB : Hid (freqsB xs = b)) :
    Calls Try.prog 43 #[.slice ao n cap] w fun e w' => e = .returned (.bool b) ∧ w' = w := by
  have hl := hr.1
  have HR := hide hr
  clear hr
  by_cases hn : n ≤ 256
  · have hd : decide ((256 : Int) < (n : Int)) = false := decide_eq_false (by omega)
    go_enter Try.func43, Try.ntmps43
    go_wp2
    go_loopw [3, 4] (fun s i wr => ∃ (k : Nat) (t : Bool), k ≤ n ∧ i = .int .i64 k ∧ s = .bool t ∧ Hid ((xs.take k).all freqB = true) ∧ Hid ((xs.take k).any (fun x => decide (0 < x)) = t) ∧ wr = w) (fun _ i _ => n - (intOf i).toNat)
    case atStart => exact ⟨0, false, Nat.zero_le _, rfl, rfl, rfl, rfl, rfl⟩
    case round =>
      obtain ⟨k, t, hk, rfl, rfl, ha, hs, rfl⟩ := hrel
      by_cases hlt : k < n
      · obtain ⟨bb, off, rfl, hc⟩ := (unhide HR).2 k hlt
        have hal := all_takeP (f := freqB) (xs := xs) (k := k) (by omega)
        have hno := all_noP (f := freqB) (xs := xs) (k := k) (by omega)
        have hany : (xs.take (k + 1)).any (fun x => decide (0 < x)) = (t || decide (0 < xs.getD k 0)) := by
          have hk2 : k < xs.length := by omega
          rw [List.take_succ_eq_append_getElem hk2, List.any_append, unhide hs]
          simp [hk2]
        generalize xs.getD k 0 = x at *
        cases hx : freqB x with
        | true =>
          have HD : Hid (decide (0 ≤ x ∧ x ≤ 1000000) = true) := hx
          have hA : (xs.take (k + 1)).all freqB = true := by rw [hal, unhide ha, hx]; rfl
          have HA := hide hA
          obtain ⟨u, hu⟩ : ∃ u, decide (0 < x) = u := ⟨_, rfl⟩
          rw [hu] at hany
          have HAN := hide hany
          clear hA ha hal hno hx hs hany
          cases t with
          | true =>
            go_wp2_with fail
            refine (between x 0 1000000 true HD wr).mono ?_
            rintro e w1 ⟨rfl, rfl⟩
            go_wp2
            go_roundw
            case rel => exact ⟨k + 1, true, by omega, by go_num, rfl, HA, HAN, trivial⟩
            case measure => simp [intOf]; omega
          | false =>
            go_wp2_with fail
            refine (between x 0 1000000 true HD wr).mono ?_
            rintro e w1 ⟨rfl, rfl⟩
            go_wp2
            go_roundw
            case rel => exact ⟨k + 1, u, by omega, by go_num, by first | rfl | (rw [← hu]), HA, HAN, trivial⟩
            case measure => simp [intOf]; omega
        | false =>
          have HD : Hid (decide (0 ≤ x ∧ x ≤ 1000000) = false) := hx
          have hb : b = false := by rw [← unhide HB, freqsB, hno hx, Bool.and_false, Bool.false_and]
          subst hb
          clear ha hal hno hx hs hany
          go_wp2_with fail
          refine (between x 0 1000000 false HD wr).mono ?_
          rintro e w1 ⟨rfl, rfl⟩
          go_wp2
          go_ret
          exact ⟨rfl, rfl⟩
      · obtain rfl : k = n := by omega
        have hb : b = t := by
          have h := unhide ha
          have h2 := unhide hs
          rw [← hl, List.take_length] at h h2
          rw [← unhide HB, freqsB, h, hl, decide_eq_true hn, h2]
          simp
        subst hb
        go_wp2
        go_ret
        exact ⟨rfl, rfl⟩
  · have hb : b = false := by rw [← unhide HB, freqsB, hl, decide_eq_false hn]; rfl
    subst hb
    have hd : decide ((256 : Int) < (n : Int)) = true := decide_eq_true (by omega)
    go_enter Try.func43, Try.ntmps43
    go_wp2
    go_ret
    exact ⟨rfl, rfl⟩

end Go.Proofs.Ytcbaiagkdphkeaa
