/-
  Lens and freqs in the program: what may be.
-/
import Derived.Test.YtcbaiagkdphkeaaCodeSpec
import Derived.Test.YtcbaiagkdphkeaaCodesPure
namespace Go.Proofs.Ytcbaiagkdphkeaa
open Go.RowKit

theorem inRange8 (n lo hi : Int) (t : Bool) (ht : Hid (decide (lo ≤ n ∧ n ≤ hi) = t)) (w : World) :
    Calls Try.prog 49 #[.int .i64 n, .int .i64 lo, .int .i64 hi] w fun e w' => e = .returned (.bool t) ∧ w' = w := by
  by_cases h1 : lo ≤ n
  · by_cases h2 : n ≤ hi
    · have e : t = true := by rw [← unhide ht]; simp [h1, h2]
      subst e
      go_enter Try.func49, Try.ntmps49
      go_wp2
      go_ret
      exact ⟨by simp, rfl⟩
    · have e : t = false := by rw [← unhide ht]; simp [h2]
      subst e
      go_enter Try.func49, Try.ntmps49
      go_wp2
      go_ret
      exact ⟨by simp, rfl⟩
  · have e : t = false := by rw [← unhide ht]; simp [h1]
    subst e
    have hd : decide (lo ≤ n) = false := by simpa using h1
    go_enter Try.func49, Try.ntmps49
    go_wp2
    go_ret
    exact ⟨rfl, rfl⟩

def numB (m x : Int) : Bool := decide (0 ≤ x ∧ x ≤ m)
def perB (m : Int) (xs : List Int) : Bool := decide (xs.length ≤ 256) && xs.all (numB m) && xs.any (fun x => decide (0 < x))
theorem sym_freqs (fs : List Int) : perB 1000000 fs = freqsB fs := rfl
theorem kr_pos {xs : List Int} : 0 < krS xs ↔ xs.any (fun x => decide (0 < x)) = true := by
  induction xs with
  | nil => simp [krS, sumF]
  | cons x xs ih =>
    have e : krS (x :: xs) = kr x + krS xs := rfl
    rw [e, List.any_cons, Bool.or_eq_true, ← ih, decide_eq_true_eq]
    unfold kr
    by_cases h : 0 < x
    · rw [if_pos h]
      have : 0 < 2 ^ (16 - x.toNat) := Nat.two_pow_pos _
      exact ⟨fun _ => .inl h, fun _ => by omega⟩
    · rw [if_neg h]
      exact ⟨fun h2 => .inr (by omega), fun h2 => by rcases h2 with h2 | h2 <;> omega⟩
theorem sym_lens (xs : List Int) : lensB xs = (perB 16 xs && decide (krS xs ≤ 65536)) := by
  have e : xs.any (fun x => decide (0 < x)) = decide (0 < krS xs) := by
    cases h : xs.any (fun x => decide (0 < x)) with
    | true => exact (decide_eq_true (kr_pos.2 h)).symm
    | false => exact (decide_eq_false (fun h2 => by rw [kr_pos.1 h2] at h; simp at h)).symm
  unfold lensB perB
  rw [e, Bool.and_assoc, Bool.and_assoc, Bool.and_assoc]
  congr 1
  congr 1
  rw [Bool.decide_and]

set_option maxHeartbeats 1600000 in
theorem implPer (ao : Option Addr) (n cap : Nat) (xs : List Int) (w : World) (hr : Rd .i64 w ao n xs) (hn1 : n ≤ 1048576) (M : Int) (b : Bool) (HB : Hid (perB M xs = b)) :
    Calls Try.prog 37 #[.slice ao n cap, .int .i64 M] w fun e w' => e = .returned (.bool b) ∧ w' = w := by
  have hl := hr.1
  have HR := hide hr
  clear hr
  by_cases hn : n ≤ 256
  · have hd : decide ((256 : Int) < (n : Int)) = false := decide_eq_false (by omega)
    go_enter Try.func37, Try.ntmps37
    go_wp2
    go_loopw [5, 13] (fun s i wr => ∃ (k : Nat) (t : Bool), k ≤ n ∧ i = .int .i64 k ∧ s = .bool t ∧ Hid ((xs.take k).all (numB M) = true) ∧ Hid ((xs.take k).any (fun x => decide (0 < x)) = t) ∧ wr = w) (fun _ i _ => n - (intOf i).toNat)
    case atStart => exact ⟨0, false, Nat.zero_le _, rfl, rfl, rfl, rfl, rfl⟩
    case round =>
      obtain ⟨k, t, hk, rfl, rfl, ha, hs, rfl⟩ := hrel
      by_cases hlt : k < n
      · obtain ⟨bb, off, rfl, hc⟩ := (unhide HR).2 k hlt
        have hal := all_takeP (f := numB M) (xs := xs) (k := k) (by omega)
        have hno := all_noP (f := numB M) (xs := xs) (k := k) (by omega)
        have hany : (xs.take (k + 1)).any (fun x => decide (0 < x)) = (t || decide (0 < xs.getD k 0)) := by
          have hk2 : k < xs.length := by omega
          rw [List.take_succ_eq_append_getElem hk2, List.any_append, unhide hs]
          simp [hk2]
        generalize xs.getD k 0 = x at *
        cases hx : numB M x with
        | true =>
          have HD : Hid (decide (0 ≤ x ∧ x ≤ M) = true) := hx
          have hA : (xs.take (k + 1)).all (numB M) = true := by rw [hal, unhide ha, hx]; rfl
          have HA := hide hA
          obtain ⟨u, hu⟩ : ∃ u, decide (0 < x) = u := ⟨_, rfl⟩
          rw [hu] at hany
          have HAN := hide hany
          clear hA ha hal hno hx hs hany
          cases t with
          | true =>
            go_wp2_with fail
            refine (inRange8 x 0 M true HD wr).mono ?_
            rintro e w1 ⟨rfl, rfl⟩
            go_wp2
            go_roundw
            case rel => exact ⟨k + 1, true, by omega, by go_num, rfl, HA, HAN, trivial⟩
            case measure => simp [intOf]; omega
          | false =>
            go_wp2_with fail
            refine (inRange8 x 0 M true HD wr).mono ?_
            rintro e w1 ⟨rfl, rfl⟩
            go_wp2
            go_roundw
            case rel => exact ⟨k + 1, u, by omega, by go_num, by first | rfl | (rw [← hu]), HA, HAN, trivial⟩
            case measure => simp [intOf]; omega
        | false =>
          have HD : Hid (decide (0 ≤ x ∧ x ≤ M) = false) := hx
          have hb : b = false := by rw [← unhide HB, perB, hno hx, Bool.and_false, Bool.false_and]
          subst hb
          clear ha hal hno hx hs hany
          go_wp2_with fail
          refine (inRange8 x 0 M false HD wr).mono ?_
          rintro e w1 ⟨rfl, rfl⟩
          go_wp2
          go_ret
          exact ⟨rfl, rfl⟩
      · obtain rfl : k = n := by omega
        have hb : b = t := by
          have h := unhide ha
          have h2 := unhide hs
          rw [← hl, List.take_length] at h h2
          rw [← unhide HB, perB, h, hl, decide_eq_true hn, h2]
          simp
        subst hb
        go_wp2
        go_ret
        exact ⟨rfl, rfl⟩
  · have hb : b = false := by rw [← unhide HB, perB, hl, decide_eq_false hn]; rfl
    subst hb
    have hd : decide ((256 : Int) < (n : Int)) = true := decide_eq_true (by omega)
    go_enter Try.func37, Try.ntmps37
    go_wp2
    go_ret
    exact ⟨rfl, rfl⟩

set_option maxHeartbeats 1600000 in
theorem implTaken (ao : Option Addr) (n cap : Nat) (xs : List Int) (w : World) (hr : Rd .i64 w ao n xs) (hn : n ≤ 256) (HB : Hid (∀ i, i < n → 0 ≤ xs.getD i 0 ∧ xs.getD i 0 ≤ 16)) :
    Calls Try.prog 38 #[.slice ao n cap] w fun e w' => e = .returned (.int .i64 (krS xs : Nat)) ∧ w' = w := by
  have hl := hr.1
  have HR := hide hr
  clear hr
  have HEND : Hid (krS (xs.take n) = krS xs) := by unfold Hid; rw [← hl, List.take_length]
  obtain ⟨Z, HZ⟩ : ∃ Z, Hid (krS xs = Z) := ⟨_, rfl⟩
  rw [unhide HZ] at HEND
  rw [unhide HZ]
  go_enter Try.func38, Try.ntmps38
  go_wp2
  go_loopw [3, 8] (fun s i wr => ∃ (k t : Nat), k ≤ n ∧ t ≤ 16777216 ∧ i = .int .i64 k ∧ s = .int .i64 t ∧ Hid (krS (xs.take k) = t) ∧ wr = w) (fun _ i _ => n - (intOf i).toNat)
  case atStart => exact ⟨0, 0, Nat.zero_le _, Nat.zero_le _, rfl, rfl, rfl, rfl⟩
  case round =>
    obtain ⟨k, t, hk, ht, rfl, rfl, hs, rfl⟩ := hrel
    by_cases hlt : k < n
    · obtain ⟨bb, off, rfl, hc⟩ := (unhide HR).2 k hlt
      have hkr := krS_take (xs := xs) (k := k) (by omega)
      have hbd := krS_bound (xs.take (k + 1))
      have hbl : (xs.take (k + 1)).length = k + 1 := by simp; omega
      rw [hkr, unhide hs, hbl] at hbd
      have hx2 := unhide HB k hlt
      generalize xs.getD k 0 = x at *
      obtain ⟨l, rfl⟩ := Int.eq_ofNat_of_zero_le hx2.1
      by_cases h0 : 0 < l
      · have hd0 : decide ((0 : Int) < (l : Int)) = true := decide_eq_true (by omega)
        have hkl : kr (l : Int) = 2 ^ (16 - l) := by unfold kr; rw [if_pos (by omega), Int.toNat_natCast]
        have HS2 : Hid (krS (xs.take (k + 1)) = t + 2 ^ (16 - l)) := by unfold Hid; rw [hkr, unhide hs, hkl]
        have hkk : ((16 : Int) - (l : Int)).toNat = 16 - l := by omega
        have e4 := i64_in ((16 : Int) - (l : Int)) (by omega)
        have hp := pow_fit8 (k := 16 - l) (by omega)
        have hpc : ((2 ^ (16 - l) : Nat) : Int) = (2 : Int) ^ (16 - l) := by simp
        rw [hkl] at hbd
        obtain ⟨P, hP⟩ : ∃ P : Nat, 2 ^ (16 - l) = P := ⟨_, rfl⟩
        rw [hP] at HS2 hpc hbd
        have e3 := i64_in ((P : Int)) (by omega)
        have e5 := i64_in ((t : Int) + (P : Int)) (by omega)
        have hpc2 : (2 : Int) ^ (16 - l) = (P : Int) := hpc.symm
        clear hs hkr hkl hP hpc hp
        go_wp2
        go_roundw
        case rel => exact ⟨k + 1, t + P, by omega, by omega, by go_num, by go_num, HS2, trivial⟩
        case measure => simp [intOf]; omega
      · obtain rfl : l = 0 := by omega
        have HS2 : Hid (krS (xs.take (k + 1)) = t) := by unfold Hid; rw [hkr, unhide hs]; rfl
        clear hs hkr hbd
        go_wp2
        go_roundw
        case rel => exact ⟨k + 1, t, by omega, by omega, by go_num, rfl, HS2, trivial⟩
        case measure => simp [intOf]; omega
    · obtain rfl : k = n := by omega
      have e : t = Z := by rw [← unhide hs]; exact unhide HEND
      subst e
      go_wp2
      go_ret
      exact ⟨rfl, rfl⟩

set_option maxHeartbeats 1600000 in
theorem implLensOk (ao : Option Addr) (n cap : Nat) (xs : List Int) (w : World) (hr : Rd .i64 w ao n xs) (hn : n ≤ 1048576) (b : Bool) (HB : Hid (lensB xs = b)) :
    Calls Try.prog 13 #[.slice ao n cap] w fun e w' => e = .returned (.bool b) ∧ w' = w := by
  obtain ⟨b1, HB1⟩ : ∃ b, Hid (perB 16 xs = b) := ⟨_, rfl⟩
  have hb := sym_lens xs
  rw [unhide HB, unhide HB1] at hb
  cases b1 with
  | false =>
    rw [Bool.false_and] at hb
    subst hb
    go_enter Try.func13, Try.ntmps13
    go_wp2_with fail
    refine (implPer ao n cap xs w hr hn 16 false HB1).mono ?_
    rintro e w1 ⟨rfl, rfl⟩
    go_wp2
    go_ret
    exact ⟨rfl, rfl⟩
  | true =>
    have hl := hr.1
    have hp := unhide HB1
    unfold perB at hp
    rw [Bool.and_eq_true, Bool.and_eq_true] at hp
    have hn2 : n ≤ 256 := by have := of_decide_eq_true hp.1.1; omega
    have HA : Hid (∀ i, i < n → 0 ≤ xs.getD i 0 ∧ xs.getD i 0 ≤ 16) := fun i hi => of_decide_eq_true (all_get hp.1.2 i (by omega))
    rw [Bool.true_and] at hb
    have hbd := krS_bound xs
    have HT := fun w' (h : Rd .i64 w' ao n xs) => implTaken ao n cap xs w' h hn2 HA
    obtain ⟨Z, HZ⟩ : ∃ Z, krS xs = Z := ⟨_, rfl⟩
    rw [HZ] at hb hbd HT
    have hd : decide ((Z : Int) ≤ 65536) = b := by rw [hb]; exact decide_eq_decide.2 ⟨fun h => by omega, fun h => by omega⟩
    clear hb HZ hp hl
    have HR := hide hr
    go_enter Try.func13, Try.ntmps13
    go_wp2_with fail
    refine (implPer ao n cap xs w hr hn 16 true HB1).mono ?_
    rintro e w1 ⟨rfl, rfl⟩
    go_wp2_with fail
    refine (HT _ (unhide HR)).mono ?_
    rintro e w1 ⟨rfl, rfl⟩
    go_wp2
    go_ret
    exact ⟨by first | rfl | rw [hd], rfl⟩

end Go.Proofs.Ytcbaiagkdphkeaa
