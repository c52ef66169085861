/-
  Classes, bits and numbers in the program.
-/
import Derived.Test.YtekidfkahpaokaaRunPure
import Derived.Test.YtekidfkahpaokaaRows
import Derived.Lib.Walk
import Derived.Lib.BitFns
namespace Go.Proofs.Ytekidfkahpaokaa
open Go.RowKit

theorem bitLen_cls : ∀ a : Nat, a ≤ 32767 → Lib.bitLen a = cls a := by
  intro a
  induction a using Nat.strongRecOn with
  | ind a ih =>
    intro h
    by_cases h0 : a = 0
    · subst h0; rfl
    · rw [Lib.bitLen_half a h0 (by omega), cls_half h0, ih (a / 2) (by omega) (by omega)]; omega

theorem pow_fit7 {k : Nat} (h : k ≤ 15) : 1 ≤ (2 : Int) ^ k ∧ (2 : Int) ^ k ≤ 32768 := by
  have h1 : (2 : Nat) ^ k ≤ 2 ^ 15 := Nat.pow_le_pow_right (by omega) h
  have h2 : 0 < (2 : Nat) ^ k := Nat.pow_pos (by omega)
  have h3 := pow_cast k
  omega

theorem inRange7 (n lo hi : Int) (t : Bool) (ht : Hid (decide (lo ≤ n ∧ n ≤ hi) = t)) (w : World) :
    Calls Try.prog 39 #[.int .i64 n, .int .i64 lo, .int .i64 hi] w fun e w' => e = .returned (.bool t) ∧ w' = w := by
  by_cases h1 : lo ≤ n
  · by_cases h2 : n ≤ hi
    · have e : t = true := by rw [← unhide ht]; simp [h1, h2]
      subst e
      go_enter Try.func39, Try.ntmps39
      go_wp2
      go_ret
      exact ⟨by simp, rfl⟩
    · have e : t = false := by rw [← unhide ht]; simp [h2]
      subst e
      go_enter Try.func39, Try.ntmps39
      go_wp2
      go_ret
      exact ⟨by simp, rfl⟩
  · have e : t = false := by rw [← unhide ht]; simp [h1]
    subst e
    have hd : decide (lo ≤ n) = false := by simpa using h1
    go_enter Try.func39, Try.ntmps39
    go_wp2
    go_ret
    exact ⟨rfl, rfl⟩

theorem implCoefOk (n : Int) (t : Bool) (ht : Hid (coefB n = t)) (w : World) :
    Calls Try.prog 53 #[.int .i64 n] w fun e w' => e = .returned (.bool t) ∧ w' = w := by
  have HD : Hid (decide (-32767 ≤ n ∧ n ≤ 32767) = t) := ht
  clear ht
  go_enter Try.func53, Try.ntmps53
  go_wp2_with fail
  refine (inRange7 n (-32767) 32767 t HD w).mono ?_
  rintro e w1 ⟨rfl, rfl⟩
  go_wp2
  go_ret
  exact ⟨rfl, rfl⟩

theorem len8_small (y : Int) (h0 : 0 ≤ y) (h1 : y ≤ 255) : 0 ≤ Lib.len8 y ∧ Lib.len8 y ≤ 8 ∧ Lib.len8 y = (Lib.bitLen y.toNat : Int) := by
  have h2 := Lib.len8_of y h0 h1
  have h3 := Lib.bitLen_le8' y h0 h1
  omega

set_option maxHeartbeats 4000000 in
set_option maxRecDepth 100000 in
theorem implLen64 (x : Int) (w : World) (h0 : 0 ≤ x) (h1 : x ≤ 32767) :
    Calls Try.prog 77 #[.int .u64 x] w fun e w' => e = .returned (.int .i64 (Lib.bitLen x.toNat)) ∧ w' = w := by
  have a1 : decide ((4294967296 : Int) ≤ x) = false := decide_eq_false (by omega)
  have a2 : decide ((65536 : Int) ≤ x) = false := decide_eq_false (by omega)
  by_cases hx : x ≤ 255
  · obtain ⟨l0, l1, l2⟩ := len8_small x h0 hx
    have a3 : decide ((256 : Int) ≤ x) = false := decide_eq_false (by omega)
    have a4 : IntKind.u8.wrap x = x := by rw [IntKind.wrap_u8]; omega
    have a5 := i64_in (Lib.len8 x) (by omega)
    have HL := hide l2
    clear l2
    go_enter Try.func77, Try.ntmps77
    go_wp2
    go_ret
    exact ⟨ret_int (unhide HL), rfl⟩
  · obtain ⟨l0, l1, l2⟩ := len8_small (x / 256) (by omega) (by omega)
    have a3 : decide ((256 : Int) ≤ x) = true := decide_eq_true (by omega)
    have hs := Lib.bitLen_shift8 x.toNat (by omega) (by omega)
    have he : (x / 256).toNat = x.toNat / 256 := by omega
    rw [he] at l2
    have HL : Hid (8 + Lib.len8 (x / 256) = (Lib.bitLen x.toNat : Int)) := by unfold Hid; omega
    obtain ⟨y, hy⟩ : ∃ y, x / 256 = y := ⟨_, rfl⟩
    rw [hy] at l0 l1 HL
    have hy0 : 0 ≤ y ∧ y ≤ 255 := by omega
    have a4 : IntKind.u8.wrap y = y := by rw [IntKind.wrap_u8]; omega
    have a5 := i64_in (Lib.len8 y) (by omega)
    have a6 := i64_in (8 + Lib.len8 y) (by omega)
    have a7 : IntKind.u64.wrap y = y := by rw [IntKind.wrap_u64]; omega
    clear l2 hs he
    go_enter Try.func77, Try.ntmps77
    go_wp2
    go_ret
    exact ⟨ret_int (unhide HL), rfl⟩

theorem implLen (a : Nat) (w : World) (h1 : a ≤ 32767) :
    Calls Try.prog 73 #[.int .u64 a] w fun e w' => e = .returned (.int .i64 (cls a)) ∧ w' = w := by
  have e1 := bitLen_cls a h1
  obtain ⟨c, hc⟩ : ∃ c, cls a = c := ⟨_, rfl⟩
  rw [hc] at e1
  rw [hc]
  have HE := hide e1
  clear e1 hc
  go_enter Try.func73, Try.ntmps73
  go_wp2_with fail
  refine (implLen64 a w (by omega) (by omega)).mono ?_
  rw [Int.toNat_natCast, unhide HE]
  rintro e w1 ⟨rfl, rfl⟩
  go_wp2
  go_ret
  exact ⟨rfl, rfl⟩

set_option maxHeartbeats 800000 in
theorem implClass7 (n k : Int) (HK : Hid (classI n = k)) (w : World) :
    Calls Try.prog 56 #[.int .i64 n] w fun e w' => e = .returned (.int .i64 k) ∧ w' = w := by
  cases hb : coefB n with
  | false =>
    have e : k = -1 := by rw [← unhide HK, classI, hb]; rfl
    subst e
    have HD : Hid (coefB n = false) := hb
    clear HK hb
    go_enter Try.func56, Try.ntmps56
    go_wp2_with fail
    refine (implCoefOk n false HD w).mono ?_
    rintro e w1 ⟨rfl, rfl⟩
    go_wp2
    go_ret
    exact ⟨rfl, rfl⟩
  | true =>
    have e : k = (cls n.natAbs : Int) := by rw [← unhide HK, classI, hb]; rfl
    subst e
    have HD : Hid (coefB n = true) := hb
    have hn : -32767 ≤ n ∧ n ≤ 32767 := by simpa [coefB] using hb
    have e1 := i64_in (-n) (by omega)
    obtain ⟨a, ha⟩ : ∃ a, n.natAbs = a := ⟨_, rfl⟩
    rw [ha]
    have HA := hide ha
    clear HK hb ha
    go_enter Try.func56, Try.ntmps56
    go_wp2_with fail
    refine (implCoefOk n true HD w).mono ?_
    rintro e w1 ⟨rfl, rfl⟩
    have hm : max n (-n) = (a : Int) := by have := unhide HA; omega
    go_wp2_with fail
    refine (implLen a w1 (by have := unhide HA; omega)).mono ?_
    rintro e w2 ⟨rfl, rfl⟩
    clear hm
    go_wp2
    go_ret
    exact ⟨rfl, rfl⟩

end Go.Proofs.Ytekidfkahpaokaa
