/-
  Classes, bits and numbers in the specification.
-/
import Derived.Test.YtmomfopbdpgcgabRunPure
import Derived.Test.YtmomfopbdpgcgabBetween
namespace Go.Proofs.Ytmomfopbdpgcgab
open Go.RowKit

theorem specAbs (n : Int) (hn : -32767 ≤ n ∧ n ≤ 32767) (w : World) :
    Calls Try.prog 29 #[.int .i64 n] w fun e w' => e = .returned (.int .i64 (n.natAbs : Int)) ∧ w' = w := by
  by_cases h : n < 0
  · have e1 := i64_in (-n) (by omega)
    go_enter Try.func29, Try.ntmps29
    go_wp2
    go_ret
    exact ⟨ret_int (by omega), rfl⟩
  · go_enter Try.func29, Try.ntmps29
    go_wp2
    go_ret
    exact ⟨ret_int (by omega), rfl⟩

set_option maxHeartbeats 800000 in
theorem specClassOf (n k : Int) (HK : Hid (classI n = k)) (w : World) :
    Calls Try.prog 23 #[.int .i64 n] w fun e w' => e = .returned (.int .i64 k) ∧ w' = w := by
  cases hb : coefB n with
  | false =>
    have e : k = -1 := by rw [← unhide HK, classI, hb]; rfl
    subst e
    have HD : Hid (decide (-32767 ≤ n ∧ n ≤ 32767) = false) := hb
    clear HK hb
    go_enter Try.func23, Try.ntmps23
    go_wp2_with fail
    refine (between n (-32767) 32767 false HD w).mono ?_
    rintro e w1 ⟨rfl, rfl⟩
    go_wp2
    go_ret
    exact ⟨rfl, rfl⟩
  | true =>
    have e : k = (cls n.natAbs : Int) := by rw [← unhide HK, classI, hb]; rfl
    subst e
    have HD : Hid (decide (-32767 ≤ n ∧ n ≤ 32767) = true) := hb
    have hn : -32767 ≤ n ∧ n ≤ 32767 := by simpa [coefB] using hb
    have hc := cls_le (a := n.natAbs) (by omega)
    obtain ⟨c, hcc⟩ : ∃ c, cls n.natAbs = c := ⟨_, rfl⟩
    rw [hcc] at hc
    rw [hcc]
    have HCC := hide hcc
    clear HK hb hcc
    go_enter Try.func23, Try.ntmps23
    go_wp2_with fail
    refine (between n (-32767) 32767 true HD w).mono ?_
    rintro e w1 ⟨rfl, rfl⟩
    go_wp2_with fail
    refine (specAbs n hn w1).mono ?_
    rintro e w2 ⟨rfl, rfl⟩
    go_wp2
    go_loopw [3, 4] (fun o i wr => ∃ a j : Nat, a ≤ 32767 ∧ i = .int .i64 a ∧ o = .int .i64 j ∧ Hid (j + cls a = c) ∧ wr = w2) (fun _ i _ => (intOf i).toNat)
    case atStart => exact ⟨n.natAbs, 0, by omega, rfl, rfl, by unfold Hid; rw [Nat.zero_add]; exact unhide HCC, rfl⟩
    case round =>
      obtain ⟨a, j, ha, rfl, rfl, hj, rfl⟩ := hrel
      by_cases h0 : 0 < a
      · have hA : j + 1 + cls (a / 2) = c := by rw [← unhide hj, cls_half (a := a) (by omega)]; omega
        obtain ⟨A, hAA⟩ : ∃ A, a / 2 = A := ⟨_, rfl⟩
        rw [hAA] at hA
        have HA := hide hA
        have q1 : (a : Int) / 2 = (A : Int) := by omega
        have q2 : (a : Int).tdiv 2 = (A : Int) := by rw [Int.tdiv_eq_ediv_of_nonneg (by omega)]; exact q1
        have e1 := i64_in (A : Int) (by omega)
        have e2 := i64_in ((j : Int) + 1) (by omega)
        clear hA hj
        go_wp2
        go_roundw
        case rel => exact ⟨A, j + 1, by omega, by go_num, by go_num, HA, trivial⟩
        case measure => simp [intOf]; omega
      · obtain rfl : a = 0 := by omega
        have e : j = c := by have := unhide hj; rw [cls_zero] at this; exact this
        subst e
        go_wp2
        go_ret
        exact ⟨rfl, rfl⟩

theorem specMost7 (n k : Int) (w : World) :
    Calls Try.prog 30 #[.int .i64 n, .int .i64 k] w fun e w' => e = .returned (.int .i64 (if k < 0 then -1 else n)) ∧ w' = w := by
  by_cases h : k < 0
  · go_enter Try.func30, Try.ntmps30
    go_wp2
    go_ret
    exact ⟨rfl, rfl⟩
  · go_enter Try.func30, Try.ntmps30
    go_wp2
    go_ret
    exact ⟨rfl, rfl⟩

theorem pow_fit {k : Nat} (h : k ≤ 15) : 1 ≤ (2 : Int) ^ k ∧ (2 : Int) ^ k ≤ 32768 := by
  have h1 : (2 : Nat) ^ k ≤ 2 ^ 15 := Nat.pow_le_pow_right (by omega) h
  have h2 : 0 < (2 : Nat) ^ k := Nat.pow_pos (by omega)
  have h3 := pow_cast k
  omega

set_option maxHeartbeats 800000 in
theorem specBitsOf (n v : Int) (HV : Hid (bitsI n = v)) (w : World) :
    Calls Try.prog 24 #[.int .i64 n] w fun e w' => e = .returned (.int .i64 v) ∧ w' = w := by
  cases hb : coefB n with
  | false =>
    have e : v = -1 := by rw [← unhide HV, bitsI, hb]; rfl
    have HK : Hid (classI n = -1) := by unfold Hid; rw [classI, hb]; rfl
    subst e
    clear HV hb
    go_enter Try.func24, Try.ntmps24
    go_wp2_with fail
    refine (specClassOf n (-1) HK w).mono ?_
    rintro e w1 ⟨rfl, rfl⟩
    go_wp2_with fail
    refine (specMost7 n (-1) w1).mono ?_
    rintro e w2 ⟨rfl, rfl⟩
    go_wp2
    go_ret
    exact ⟨rfl, rfl⟩
  | true =>
    have hn : -32767 ≤ n ∧ n ≤ 32767 := by simpa [coefB] using hb
    have hc := cls_le (a := n.natAbs) (by omega)
    obtain ⟨c, hcc⟩ : ∃ c, cls n.natAbs = c := ⟨_, rfl⟩
    rw [hcc] at hc
    have HK : Hid (classI n = (c : Int)) := by unfold Hid; rw [classI, hb, ← hcc]; rfl
    have hd : decide ((c : Int) < 0) = false := decide_eq_false (by omega)
    by_cases h0 : n < 0
    · have e : v = n + 2 ^ c - 1 := by rw [← unhide HV, bitsI, hb, ← hcc]; simp [h0]
      subst e
      have hd2 : decide ((0 : Int) ≤ n) = false := decide_eq_false (by omega)
      have hp := pow_fit hc
      clear HV hb hcc
      generalize hP : (2 : Int) ^ c = P at *
      have e1 := i64_in P (by omega)
      have e2 := i64_in (n + P) (by omega)
      have e3 := i64_in (n + P - 1) (by omega)
      go_enter Try.func24, Try.ntmps24
      go_wp2_with fail
      refine (specClassOf n c HK w).mono ?_
      rintro e w1 ⟨rfl, rfl⟩
      go_wp2
      go_ret
      exact ⟨rfl, rfl⟩
    · have e : v = n := by rw [← unhide HV, bitsI, hb]; simp [h0]
      subst e
      have hd2 : decide ((0 : Int) ≤ v) = true := decide_eq_true (by omega)
      clear HV hb hcc
      go_enter Try.func24, Try.ntmps24
      go_wp2_with fail
      refine (specClassOf v c HK w).mono ?_
      rintro e w1 ⟨rfl, rfl⟩
      go_wp2_with fail
      refine (specMost7 v c w1).mono ?_
      rintro e w2 ⟨rfl, rfl⟩
      go_wp2
      go_ret
      exact ⟨rfl, rfl⟩

set_option maxHeartbeats 800000 in
theorem specNumOf (s b v : Int) (HV : Hid (numI s b = v)) (w : World) :
    Calls Try.prog 14 #[.int .i64 s, .int .i64 b] w fun e w' => e = .returned (.int .i64 v) ∧ w' = w := by
  by_cases hs : 0 ≤ s ∧ s ≤ 15
  · obtain ⟨k, rfl⟩ := Int.eq_ofNat_of_zero_le hs.1
    have hk : k ≤ 15 := by omega
    have hp := pow_fit hk
    have HS : Hid (decide (0 ≤ (k : Int) ∧ (k : Int) ≤ 15) = true) := decide_eq_true hs
    obtain ⟨P, hP⟩ : ∃ P, (2 : Int) ^ k = P := ⟨_, rfl⟩
    rw [hP] at hp
    have e1 := i64_in P (by omega)
    have e2 := i64_in (P - 1) (by omega)
    by_cases hb : 0 ≤ b ∧ b ≤ P - 1
    · have HB : Hid (decide (0 ≤ b ∧ b ≤ P - 1) = true) := decide_eq_true hb
      by_cases h0 : 0 < k
      · have hp2 := pow_fit (k := k - 1) (by omega)
        obtain ⟨R, hR⟩ : ∃ R, (2 : Int) ^ (k - 1) = R := ⟨_, rfl⟩
        rw [hR] at hp2
        have hkk : ((k : Int) - 1).toNat = k - 1 := by omega
        have e3 := i64_in R (by omega)
        have e4 := i64_in ((k : Int) - 1) (by omega)
        have hd0 : decide ((0 : Int) < (k : Int)) = true := decide_eq_true (by omega)
        by_cases h1 : b < R
        · have e : v = b - P + 1 := by
            rw [← unhide HV, numI, Int.toNat_natCast, hP, if_pos ⟨hs, hb⟩, hR, if_pos ⟨by omega, h1⟩]
          subst e
          have hd1 : decide (b < R) = true := decide_eq_true h1
          have e5 := i64_in (b - P) (by omega)
          have e6 := i64_in (b - P + 1) (by omega)
          clear HV
          go_enter Try.func14, Try.ntmps14
          go_wp2_with fail
          refine (between k 0 15 true HS w).mono ?_
          rintro e w1 ⟨rfl, rfl⟩
          go_wp2_with fail
          refine (between b 0 (P - 1) true HB w1).mono ?_
          rintro e w2 ⟨rfl, rfl⟩
          go_wp2
          go_ret
          exact ⟨rfl, rfl⟩
        · have e : v = b := by
            rw [← unhide HV, numI, Int.toNat_natCast, hP, if_pos ⟨hs, hb⟩, hR, if_neg (fun h => h1 h.2)]
          subst e
          have hd1 : decide (v < R) = false := decide_eq_false h1
          clear HV
          go_enter Try.func14, Try.ntmps14
          go_wp2_with fail
          refine (between k 0 15 true HS w).mono ?_
          rintro e w1 ⟨rfl, rfl⟩
          go_wp2_with fail
          refine (between v 0 (P - 1) true HB w1).mono ?_
          rintro e w2 ⟨rfl, rfl⟩
          go_wp2
          go_ret
          exact ⟨rfl, rfl⟩
      · obtain rfl : k = 0 := by omega
        have e : v = b := by
          rw [← unhide HV, numI, Int.toNat_natCast, hP, if_pos ⟨hs, hb⟩, if_neg (fun h => by simp at h)]
        subst e
        clear HV
        go_enter Try.func14, Try.ntmps14
        go_wp2_with fail
        refine (between 0 0 15 true HS w).mono ?_
        rintro e w1 ⟨rfl, rfl⟩
        go_wp2_with fail
        have hP1 : P = 1 := by rw [← hP]; rfl
        subst hP1
        refine (between v 0 0 true HB w1).mono ?_
        rintro e w2 ⟨rfl, rfl⟩
        go_wp2
        go_ret
        exact ⟨rfl, rfl⟩
    · have HB : Hid (decide (0 ≤ b ∧ b ≤ P - 1) = false) := decide_eq_false hb
      have e : v = 0 := by rw [← unhide HV, numI, Int.toNat_natCast, hP, if_neg (fun h => hb h.2)]
      subst e
      clear HV
      go_enter Try.func14, Try.ntmps14
      go_wp2_with fail
      refine (between k 0 15 true HS w).mono ?_
      rintro e w1 ⟨rfl, rfl⟩
      go_wp2_with fail
      refine (between b 0 (P - 1) false HB w1).mono ?_
      rintro e w2 ⟨rfl, rfl⟩
      go_wp2
      go_ret
      exact ⟨rfl, rfl⟩
  · have HS : Hid (decide (0 ≤ s ∧ s ≤ 15) = false) := decide_eq_false hs
    have e : v = 0 := by rw [← unhide HV, numI, if_neg (fun h => hs h.1)]
    subst e
    clear HV
    go_enter Try.func14, Try.ntmps14
    go_wp2_with fail
    refine (between s 0 15 false HS w).mono ?_
    rintro e w1 ⟨rfl, rfl⟩
    go_wp2
    go_ret
    exact ⟨rfl, rfl⟩

end Go.Proofs.Ytmomfopbdpgcgab
