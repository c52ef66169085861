/-
  Planes' sides and PlaneOk, in the specification.
-/
import Derived.Test.YtkefpjbdkhifhaaSampPure
import Derived.Test.YtkefpjbdkhifhaaBetween
import Derived.Test.YtkefpjbdkhifhaaInts
namespace Go.Proofs.Ytkefpjbdkhifhaa
open Go.RowKit

theorem mul_sides {w h : Int} (hw : 1 ≤ w ∧ w ≤ 1024) (hh : 1 ≤ h ∧ h ≤ 1024) : 1 ≤ w * h ∧ w * h ≤ 1048576 := by
  have h1 : w * h ≤ 1024 * 1024 := Int.mul_le_mul hw.2 hh.2 (by omega) (by omega)
  have h2 : 1 * 1 ≤ w * h := Int.mul_le_mul hw.1 hh.1 (by omega) (by omega)
  omega
theorem sides_of {w h : Int} (e : sidesB w h = true) : (1 ≤ w ∧ w ≤ 1024) ∧ (1 ≤ h ∧ h ≤ 1024) ∧ w * h ≤ 131072 := by
  unfold sidesB at e
  simp at e
  omega
theorem specSides (w h : Int) (t : Bool) (HT : Hid (sidesB w h = t)) (W : World) :
    Calls Try.prog 50 #[.int .i64 w, .int .i64 h] W fun e W' => e = .returned (.bool t) ∧ W' = W := by
  obtain ⟨tw, HTW⟩ : ∃ y, Hid (decide (1 ≤ w ∧ w ≤ 1024) = y) := ⟨_, rfl⟩
  obtain ⟨th, HTH⟩ : ∃ y, Hid (decide (1 ≤ h ∧ h ≤ 1024) = y) := ⟨_, rfl⟩
  have HE : Hid (t = (tw && th && decide (w * h ≤ 131072))) := by unfold Hid; rw [← unhide HT, sidesB, unhide HTW, unhide HTH]
  go_enter Try.func50, Try.ntmps50
  go_wp2_with fail
  refine (between w 1 1024 tw HTW W).mono ?_
  rintro e W ⟨rfl, rfl⟩
  cases tw with
  | false =>
    obtain rfl : t = false := by rw [unhide HE]; rfl
    go_wp2
    go_ret
    exact ⟨rfl, rfl⟩
  | true =>
    go_wp2_with fail
    refine (between h 1 1024 th HTH W).mono ?_
    rintro e W ⟨rfl, rfl⟩
    cases th with
    | false =>
      obtain rfl : t = false := by rw [unhide HE]; rfl
      go_wp2
      go_ret
      exact ⟨rfl, rfl⟩
    | true =>
      have hm := mul_sides (of_decide_eq_true (unhide HTW)) (of_decide_eq_true (unhide HTH))
      obtain ⟨m, HM⟩ : ∃ m, Hid (w * h = m) := ⟨_, rfl⟩
      rw [unhide HM] at hm HE
      have e1 : IntKind.i64.wrap (w * h) = m := by rw [unhide HM, i64_in _ (by omega)]
      obtain ⟨y, HY⟩ : ∃ y, Hid (decide (m ≤ 131072) = y) := ⟨_, rfl⟩
      rw [unhide HY] at HE
      obtain rfl : t = y := by rw [unhide HE]; rfl
      have e2 : decide (m ≤ 131072) = t := unhide HY
      go_wp2
      go_ret
      exact ⟨rfl, rfl⟩

def tonesTo (L : List Int) (k : Nat) : Prop := ∀ j, j < k → 0 ≤ L.getD j 0 ∧ L.getD j 0 ≤ 4095
theorem tones_all {L : List Int} (h : tonesTo L L.length) : (L.all fun x => decide (0 ≤ x ∧ x ≤ 4095)) = true := by
  rw [List.all_eq_true]
  intro x hx
  obtain ⟨i, hi, rfl⟩ := List.mem_iff_getElem.1 hx
  have := h i hi
  simpa [hi] using this
theorem tones_no {L : List Int} {k : Nat} (hk : k < L.length) (h : decide (0 ≤ L.getD k 0 ∧ L.getD k 0 ≤ 4095) = false) : (L.all fun x => decide (0 ≤ x ∧ x ≤ 4095)) = false := by
  rw [Bool.eq_false_iff]
  intro e
  have := List.all_eq_true.1 e L[k] (List.getElem_mem hk)
  rw [show L.getD k 0 = L[k] by simp [hk]] at h
  rw [h] at this
  cases this

set_option maxHeartbeats 1600000 in
theorem specPlaneOk (ao : Option Addr) (n cap : Nat) (zs : List Int) (w h : Int) (W : World) (hr : Rd .i64 W ao n zs) (hn : n ≤ 9223372036854775807) (b : Bool) (HB : Hid (planeB zs w h = b)) :
    Calls Try.prog 17 #[.slice ao n cap, .int .i64 w, .int .i64 h] W fun e W' => e = .returned (.bool b) ∧ W.grownBy W' none := by
  have HR := hide hr
  have HZ := hide hr.1
  obtain ⟨s, HS⟩ : ∃ y, Hid (sidesB w h = y) := ⟨_, rfl⟩
  clear hr
  go_enter Try.func17, Try.ntmps17
  go_wp2_with fail
  refine (specSides w h s HS W).mono ?_
  rintro e W ⟨rfl, rfl⟩
  cases s with
  | false =>
    obtain rfl : b = false := by rw [← unhide HB, planeB, unhide HS]; rfl
    go_wp2
    go_ret
    exact ⟨rfl, World.grownBy.refl _ _⟩
  | true =>
    obtain ⟨hw, hh, hwh⟩ := sides_of (unhide HS)
    have hm := mul_sides hw hh
    obtain ⟨m, HM⟩ : ∃ m, Hid (w * h = m) := ⟨_, rfl⟩
    rw [unhide HM] at hm hwh
    have e1 : IntKind.i64.wrap (w * h) = m := by rw [unhide HM, i64_in _ (by omega)]
    clear hw hh
    by_cases hl : ¬ (n : Int) = m
    · obtain rfl : b = false := by
        rw [← unhide HB, planeB, unhide HS, unhide HZ, unhide HM, decide_eq_false hl]; rfl
      have e2 : ((n : Int) != m) = true := by simpa using hl
      go_wp2
      go_ret
      exact ⟨rfl, World.grownBy.refl _ _⟩
    have e2 : ((n : Int) != m) = false := by simp; omega
    have hnm : (n : Int) ≤ 131072 := by omega
    have HNM : Hid ((n : Int) = m) := by unfold Hid; omega
    clear hl
    go_wp2
    go_loopw [7] (fun i wr => ∃ k : Nat, k ≤ n ∧ i = .int .i64 k ∧ Hid (tonesTo zs k) ∧ Hid (W.grownBy wr none)) (fun i _ => n - (intOf i).toNat)
    case atStart => exact ⟨0, by omega, by go_num, fun j hj => absurd hj (by omega), World.grownBy.refl _ _⟩
    case round =>
      obtain ⟨k, hk, rfl, HK, HG⟩ := hrel
      by_cases hlt : k < n
      · have hkI : (k : Int) < (n : Int) := by omega
        obtain ⟨bb, off, rfl, hc⟩ := (unhide HR).2 k hlt
        have hcell := (unhide HG).cell hc (by simp)
        obtain ⟨z, HX⟩ : ∃ z, Hid (zs.getD k 0 = z) := ⟨_, rfl⟩
        obtain ⟨t, HT⟩ : ∃ t, Hid (decide (0 ≤ z ∧ z ≤ 4095) = t) := ⟨_, rfl⟩
        rw [unhide HX] at hcell
        have e9 := i64_in ((k : Int) + 1) (by omega)
        clear hc
        go_wp2_with fail
        refine (between z 0 4095 t HT wr).mono ?_
        rintro e wr ⟨rfl, rfl⟩
        cases t with
        | true =>
          have HK' : Hid (tonesTo zs (k + 1)) := fun j hj => by
            by_cases e : j = k
            · subst e; rw [unhide HX]; exact of_decide_eq_true (unhide HT)
            · exact unhide HK j (by omega)
          go_wp2
          go_roundw
          case rel => exact ⟨k + 1, by omega, by go_num, HK', HG⟩
          case measure => simp [intOf]; omega
        | false =>
          obtain rfl : b = false := by
            rw [← unhide HB, planeB, tones_no (k := k) (by rw [unhide HZ]; exact hlt) (by rw [unhide HX]; exact unhide HT)]
            simp
          go_wp2
          go_ret
          exact ⟨rfl, unhide HG⟩
      · obtain rfl : k = n := by omega
        obtain rfl : b = true := by
          rw [← unhide HB, planeB, unhide HS, unhide HZ, unhide HM, decide_eq_true (unhide HNM), tones_all (by rw [unhide HZ]; exact unhide HK)]
          rfl
        go_wp2
        go_ret
        exact ⟨rfl, unhide HG⟩
end Go.Proofs.Ytkefpjbdkhifhaa
