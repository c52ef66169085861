/-
  Classes, bits and numbers in the specification.
-/
import Derived.Test.YtekidfkahpaokaaRunPure
import Derived.Test.YtekidfkahpaokaaBetween
namespace Go.Proofs.Ytekidfkahpaokaa
open Go.RowKit

theorem specAbs (n : Int) (hn : -32767 ≤ n ∧ n ≤ 32767) (w : World) :
    Calls Try.prog 59 #[.int .i64 n] w fun e w' => e = .returned (.int .i64 (n.natAbs : Int)) ∧ w' = w := by
  by_cases h : n < 0
  · have e1 := i64_in (-n) (by omega)
    go_enter Try.func59, Try.ntmps59
    go_wp2
    go_ret
    exact ⟨ret_int (by omega), rfl⟩
  · go_enter Try.func59, Try.ntmps59
    go_wp2
    go_ret
    exact ⟨ret_int (by omega), rfl⟩

set_option maxHeartbeats 800000 in
theorem specClassOf (n k : Int) (HK : Hid (classI n = k)) (w : World) :
    Calls Try.prog 37 #[.int .i64 n] w fun e w' => e = .returned (.int .i64 k) ∧ w' = w := by
  cases hb : coefB n with
  | false =>
    have e : k = -1 := by rw [← unhide HK, classI, hb]; rfl
    subst e
    have HD : Hid (decide (-32767 ≤ n ∧ n ≤ 32767) = false) := hb
    clear HK hb
    go_enter Try.func37, Try.ntmps37
    go_wp2_with fail
    refine (between n (-32767) 32767 false HD w).mono ?_
    rintro e w1 ⟨rfl, rfl⟩
    go_wp2
    go_ret
    exact ⟨rfl, rfl⟩
  | true =>
    have e : k = (cls n.natAbs : Int) := by rw [← unhide HK, classI, hb]; rfl
    subst e
    have HD : Hid (decide (-32767 ≤ n ∧ n ≤ 32767) = true) := hb
    have hn : -32767 ≤ n ∧ n ≤ 32767 := by simpa [coefB] using hb
    have hc := cls_le (a := n.natAbs) (by omega)
    obtain ⟨c, hcc⟩ : ∃ c, cls n.natAbs = c := ⟨_, rfl⟩
    rw [hcc] at hc
    rw [hcc]
    have HCC := hide hcc
    clear HK hb hcc
    go_enter Try.func37, Try.ntmps37
    go_wp2_with fail
    refine (between n (-32767) 32767 true HD w).mono ?_
    rintro e w1 ⟨rfl, rfl⟩
    go_wp2_with fail
    refine (specAbs n hn w1).mono ?_
    rintro e w2 ⟨rfl, rfl⟩
    go_wp2
    go_loopw [3, 4] (fun o i wr => ∃ a j : Nat, a ≤ 32767 ∧ i = .int .i64 a ∧ o = .int .i64 j ∧ Hid (j + cls a = c) ∧ wr = w2) (fun _ i _ => (intOf i).toNat)
    case atStart => exact ⟨n.natAbs, 0, by omega, rfl, rfl, by unfold Hid; rw [Nat.zero_add]; exact unhide HCC, rfl⟩
    case round =>
      obtain ⟨a, j, ha, rfl, rfl, hj, rfl⟩ := hrel
      by_cases h0 : 0 < a
      · have hA : j + 1 + cls (a / 2) = c := by rw [← unhide hj, cls_half (a := a) (by omega)]; omega
        obtain ⟨A, hAA⟩ : ∃ A, a / 2 = A := ⟨_, rfl⟩
        rw [hAA] at hA
        have HA := hide hA
        have q1 : (a : Int) / 2 = (A : Int) := by omega
        have q2 : (a : Int).tdiv 2 = (A : Int) := by rw [Int.tdiv_eq_ediv_of_nonneg (by omega)]; exact q1
        have e1 := i64_in (A : Int) (by omega)
        have e2 := i64_in ((j : Int) + 1) (by omega)
        clear hA hj
        go_wp2
        go_roundw
        case rel => exact ⟨A, j + 1, by omega, by go_num, by go_num, HA, trivial⟩
        case measure => simp [intOf]; omega
      · obtain rfl : a = 0 := by omega
        have e : j = c := by have := unhide hj; rw [cls_zero] at this; exact this
        subst e
        go_wp2
        go_ret
        exact ⟨rfl, rfl⟩

theorem pow_fit {k : Nat} (h : k ≤ 15) : 1 ≤ (2 : Int) ^ k ∧ (2 : Int) ^ k ≤ 32768 := by
  have h1 : (2 : Nat) ^ k ≤ 2 ^ 15 := Nat.pow_le_pow_right (by omega) h
  have h2 : 0 < (2 : Nat) ^ k := Nat.pow_pos (by omega)
  have h3 := pow_cast k
  omega

end Go.Proofs.Ytekidfkahpaokaa
