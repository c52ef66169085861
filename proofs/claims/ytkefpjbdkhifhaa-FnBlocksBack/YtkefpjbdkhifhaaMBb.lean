/-
  SampSpec, IntRows, SampForms, TonePure, DeepC, DeepI0, DeepR2, DeepA, CutBSpec, CutFew, LevSpec, JoinBSpec, SampBack, CopyRow, ToneRows, FramePure, FrameImpl, FrameImpl2.
-/
import Derived.Test.YtkefpjbdkhifhaaRows
import Derived.Deep.QuietTactic
import Derived.BigQuiet
import Derived.Maps.AppendAt
import Derived.Deep.AppendLies
import Derived.Laws.CopyOwn
import Derived.Deep.RegionLaw
import Derived.Laws.ResultCell
import Derived.Laws.Rows
import Derived.Deep.WholeRow
import Derived.Deep.MidRow
import Derived.Test.YtkefpjbdkhifhaaMBa

namespace Go.Proofs.Ytkefpjbdkhifhaa
open Go.RowKit

theorem mul_sides {w h : Int} (hw : 1 ≤ w ∧ w ≤ 1024) (hh : 1 ≤ h ∧ h ≤ 1024) : 1 ≤ w * h ∧ w * h ≤ 1048576 := by
  have h1 : w * h ≤ 1024 * 1024 := Int.mul_le_mul hw.2 hh.2 (by omega) (by omega)
  have h2 : 1 * 1 ≤ w * h := Int.mul_le_mul hw.1 hh.1 (by omega) (by omega)
  omega
theorem sides_of {w h : Int} (e : sidesB w h = true) : (1 ≤ w ∧ w ≤ 1024) ∧ (1 ≤ h ∧ h ≤ 1024) ∧ w * h ≤ 131072 := by
  unfold sidesB at e
  simp at e
  omega
theorem specSides (w h : Int) (t : Bool) (HT : Hid (sidesB w h = t)) (W : World) :
    Calls Try.prog 50 #[.int .i64 w, .int .i64 h] W fun e W' => e = .returned (.bool t) ∧ W' = W := by
  obtain ⟨tw, HTW⟩ : ∃ y, Hid (decide (1 ≤ w ∧ w ≤ 1024) = y) := ⟨_, rfl⟩
  obtain ⟨th, HTH⟩ : ∃ y, Hid (decide (1 ≤ h ∧ h ≤ 1024) = y) := ⟨_, rfl⟩
  have HE : Hid (t = (tw && th && decide (w * h ≤ 131072))) := by unfold Hid; rw [← unhide HT, sidesB, unhide HTW, unhide HTH]
  go_enter Try.func50, Try.ntmps50
  go_wp2_with fail
  refine (between w 1 1024 tw HTW W).mono ?_
  rintro e W ⟨rfl, rfl⟩
  cases tw with
  | false =>
    obtain rfl : t = false := by rw [unhide HE]; rfl
    go_wp2
    go_ret
    exact ⟨rfl, rfl⟩
  | true =>
    go_wp2_with fail
    refine (between h 1 1024 th HTH W).mono ?_
    rintro e W ⟨rfl, rfl⟩
    cases th with
    | false =>
      obtain rfl : t = false := by rw [unhide HE]; rfl
      go_wp2
      go_ret
      exact ⟨rfl, rfl⟩
    | true =>
      have hm := mul_sides (of_decide_eq_true (unhide HTW)) (of_decide_eq_true (unhide HTH))
      obtain ⟨m, HM⟩ : ∃ m, Hid (w * h = m) := ⟨_, rfl⟩
      rw [unhide HM] at hm HE
      have e1 : IntKind.i64.wrap (w * h) = m := by rw [unhide HM, i64_in _ (by omega)]
      obtain ⟨y, HY⟩ : ∃ y, Hid (decide (m ≤ 131072) = y) := ⟨_, rfl⟩
      rw [unhide HY] at HE
      obtain rfl : t = y := by rw [unhide HE]; rfl
      have e2 : decide (m ≤ 131072) = t := unhide HY
      go_wp2
      go_ret
      exact ⟨rfl, rfl⟩

def tonesTo (L : List Int) (k : Nat) : Prop := ∀ j, j < k → 0 ≤ L.getD j 0 ∧ L.getD j 0 ≤ 4095
theorem tones_all {L : List Int} (h : tonesTo L L.length) : (L.all fun x => decide (0 ≤ x ∧ x ≤ 4095)) = true := by
  rw [List.all_eq_true]
  intro x hx
  obtain ⟨i, hi, rfl⟩ := List.mem_iff_getElem.1 hx
  have := h i hi
  simpa [hi] using this
theorem tones_no {L : List Int} {k : Nat} (hk : k < L.length) (h : decide (0 ≤ L.getD k 0 ∧ L.getD k 0 ≤ 4095) = false) : (L.all fun x => decide (0 ≤ x ∧ x ≤ 4095)) = false := by
  rw [Bool.eq_false_iff]
  intro e
  have := List.all_eq_true.1 e L[k] (List.getElem_mem hk)
  rw [show L.getD k 0 = L[k] by simp [hk]] at h
  rw [h] at this
  cases this

set_option maxHeartbeats 1600000 in
theorem specPlaneOk (ao : Option Addr) (n cap : Nat) (zs : List Int) (w h : Int) (W : World) (hr : Rd .i64 W ao n zs) (hn : n ≤ 9223372036854775807) (b : Bool) (HB : Hid (planeB zs w h = b)) :
    Calls Try.prog 17 #[.slice ao n cap, .int .i64 w, .int .i64 h] W fun e W' => e = .returned (.bool b) ∧ W.grownBy W' none := by
  have HR := hide hr
  have HZ := hide hr.1
  obtain ⟨s, HS⟩ : ∃ y, Hid (sidesB w h = y) := ⟨_, rfl⟩
  clear hr
  go_enter Try.func17, Try.ntmps17
  go_wp2_with fail
  refine (specSides w h s HS W).mono ?_
  rintro e W ⟨rfl, rfl⟩
  cases s with
  | false =>
    obtain rfl : b = false := by rw [← unhide HB, planeB, unhide HS]; rfl
    go_wp2
    go_ret
    exact ⟨rfl, World.grownBy.refl _ _⟩
  | true =>
    obtain ⟨hw, hh, hwh⟩ := sides_of (unhide HS)
    have hm := mul_sides hw hh
    obtain ⟨m, HM⟩ : ∃ m, Hid (w * h = m) := ⟨_, rfl⟩
    rw [unhide HM] at hm hwh
    have e1 : IntKind.i64.wrap (w * h) = m := by rw [unhide HM, i64_in _ (by omega)]
    clear hw hh
    by_cases hl : ¬ (n : Int) = m
    · obtain rfl : b = false := by
        rw [← unhide HB, planeB, unhide HS, unhide HZ, unhide HM, decide_eq_false hl]; rfl
      have e2 : ((n : Int) != m) = true := by simpa using hl
      go_wp2
      go_ret
      exact ⟨rfl, World.grownBy.refl _ _⟩
    have e2 : ((n : Int) != m) = false := by simp; omega
    have hnm : (n : Int) ≤ 131072 := by omega
    have HNM : Hid ((n : Int) = m) := by unfold Hid; omega
    clear hl
    go_wp2
    go_loopw [7] (fun i wr => ∃ k : Nat, k ≤ n ∧ i = .int .i64 k ∧ Hid (tonesTo zs k) ∧ Hid (W.grownBy wr none)) (fun i _ => n - (intOf i).toNat)
    case atStart => exact ⟨0, by omega, by go_num, fun j hj => absurd hj (by omega), World.grownBy.refl _ _⟩
    case round =>
      obtain ⟨k, hk, rfl, HK, HG⟩ := hrel
      by_cases hlt : k < n
      · have hkI : (k : Int) < (n : Int) := by omega
        obtain ⟨bb, off, rfl, hc⟩ := (unhide HR).2 k hlt
        have hcell := (unhide HG).cell hc (by simp)
        obtain ⟨z, HX⟩ : ∃ z, Hid (zs.getD k 0 = z) := ⟨_, rfl⟩
        obtain ⟨t, HT⟩ : ∃ t, Hid (decide (0 ≤ z ∧ z ≤ 4095) = t) := ⟨_, rfl⟩
        rw [unhide HX] at hcell
        have e9 := i64_in ((k : Int) + 1) (by omega)
        clear hc
        go_wp2_with fail
        refine (between z 0 4095 t HT wr).mono ?_
        rintro e wr ⟨rfl, rfl⟩
        cases t with
        | true =>
          have HK' : Hid (tonesTo zs (k + 1)) := fun j hj => by
            by_cases e : j = k
            · subst e; rw [unhide HX]; exact of_decide_eq_true (unhide HT)
            · exact unhide HK j (by omega)
          go_wp2
          go_roundw
          case rel => exact ⟨k + 1, by omega, by go_num, HK', HG⟩
          case measure => simp [intOf]; omega
        | false =>
          obtain rfl : b = false := by
            rw [← unhide HB, planeB, tones_no (k := k) (by rw [unhide HZ]; exact hlt) (by rw [unhide HX]; exact unhide HT)]
            simp
          go_wp2
          go_ret
          exact ⟨rfl, unhide HG⟩
      · obtain rfl : k = n := by omega
        obtain rfl : b = true := by
          rw [← unhide HB, planeB, unhide HS, unhide HZ, unhide HM, decide_eq_true (unhide HNM), tones_all (by rw [unhide HZ]; exact unhide HK)]
          rfl
        go_wp2
        go_ret
        exact ⟨rfl, unhide HG⟩
end Go.Proofs.Ytkefpjbdkhifhaa

namespace Go.Proofs.Ytkefpjbdkhifhaa
open Go.RowKit

end Go.Proofs.Ytkefpjbdkhifhaa

namespace Go.Proofs.Ytkefpjbdkhifhaa
open Go.RowKit

theorem down_few {w h nw nh : Int} (hp : w * h ≤ 131072) (h1 : 1 ≤ nw ∧ nw ≤ w) (h2 : 1 ≤ nh ∧ nh ≤ h) : nw.toNat * nh.toNat ≤ 131072 := by
  have hm : nw * nh ≤ w * h := Int.mul_le_mul h1.2 h2.2 (by omega) (by omega)
  have h3 : ((nw.toNat * nh.toNat : Nat) : Int) = nw * nh := by push_cast; rw [Int.toNat_of_nonneg (by omega), Int.toNat_of_nonneg (by omega)]
  omega
theorem crop_few (zs : List Int) (w h nw nh : Int) : (cropG zs w h nw nh).length ≤ 131072 := by
  unfold cropG
  split
  · rename_i hc
    simp only [Bool.and_eq_true, decide_eq_true_eq] at hc
    rw [cropL, gridL_len]
    exact down_few (plane_of hc.1.1).2.2.2.1 hc.1.2 hc.2
  · simp
theorem shrink_few (zs : List Int) (w h nw nh : Int) : (shrinkG zs w h nw nh).length ≤ 131072 := by
  unfold shrinkG
  split
  · rename_i hc
    simp only [Bool.and_eq_true, decide_eq_true_eq] at hc
    rw [shrinkL, gridL_len]
    exact down_few (plane_of hc.1.1).2.2.2.1 hc.1.2 hc.2
  · simp
theorem up_few {nw nh : Int} (h : sidesB nw nh = true) : nw.toNat * nh.toNat ≤ 131072 := by
  obtain ⟨h1, h2, h3⟩ := sides_of h
  have h4 : ((nw.toNat * nh.toNat : Nat) : Int) = nw * nh := by push_cast; rw [Int.toNat_of_nonneg (by omega), Int.toNat_of_nonneg (by omega)]
  omega
theorem grow_few (zs : List Int) (w h nw nh : Int) : (growG zs w h nw nh).length ≤ 131072 := by
  unfold growG
  split
  · rename_i hc
    simp only [Bool.and_eq_true] at hc
    rw [growL, gridL_len]
    exact up_few hc.1.1.2
  · simp
theorem pad_few (zs : List Int) (w h nw nh : Int) : (padG zs w h nw nh).length ≤ 131072 := by
  unfold padG
  split
  · rename_i hc
    simp only [Bool.and_eq_true] at hc
    rw [padL, gridL_len]
    exact up_few hc.1.1.2
  · simp

end Go.Proofs.Ytkefpjbdkhifhaa

namespace Go.Proofs.Ytkefpjbdkhifhaa

/-- A list of which the first k numbers are laid, noughts behind them. -/
def laidTo (X : List Int) (k : Nat) : List Int := X.take k ++ List.replicate (X.length - k) 0
theorem laidTo_zero (X : List Int) : laidTo X 0 = List.replicate X.length 0 := by simp [laidTo]
theorem laidTo_all (X : List Int) : laidTo X X.length = X := by simp [laidTo]
theorem laidTo_len (X : List Int) (k : Nat) (h : k ≤ X.length) : (laidTo X k).length = X.length := by simp [laidTo]; omega
theorem laidTo_set (X : List Int) (k : Nat) (h : k < X.length) (z : Int) (hz : X.getD k 0 = z) : (laidTo X k).set k z = laidTo X (k + 1) := by
  subst hz
  unfold laidTo
  rw [List.set_append_right _ _ (by simp; omega)]
  have e : X.length - k = (X.length - (k + 1)) + 1 := by omega
  have hl : (X.take k).length = k := by simp; omega
  rw [hl, Nat.sub_self, e, List.replicate_succ, List.set_cons_zero, List.take_succ_eq_append_getElem h, List.append_assoc]
  simp [h]
/-- A piece laid over a list. -/
def spliceL (L S : List Int) (off : Nat) : List Int := L.take off ++ S ++ L.drop (off + S.length)
theorem spliceL_len (L S : List Int) (off : Nat) (h : off + S.length ≤ L.length) : (spliceL L S off).length = L.length := by
  simp [spliceL]; omega
theorem laidTo_splice (X S : List Int) (k : Nat) (h : k + S.length ≤ X.length) (hS : S = (X.drop k).take S.length) : spliceL (laidTo X k) S k = laidTo X (k + S.length) := by
  unfold spliceL laidTo
  have h1 : (X.take k).length = k := by simp; omega
  rw [List.take_append_of_le_length (by omega), List.take_of_length_le (by omega), List.drop_append, h1, List.drop_eq_nil_of_le (by omega), List.nil_append]
  rw [show k + S.length - k = S.length by omega, List.drop_replicate]
  rw [show X.length - k - S.length = X.length - (k + S.length) by omega]
  rw [List.take_add]
  rw [← hS]
theorem spliceL_at (L S : List Int) (off i : Nat) (h : off + S.length ≤ L.length) : (spliceL L S off).getD i 0 = if off ≤ i ∧ i < off + S.length then S.getD (i - off) 0 else L.getD i 0 := by
  unfold spliceL
  rw [List.getD_eq_getElem?_getD]
  by_cases h1 : i < off
  · rw [if_neg (by omega), List.append_assoc, List.getElem?_append_left (by simp; omega), List.getElem?_take_of_lt h1, List.getD_eq_getElem?_getD]
  · by_cases h2 : i < off + S.length
    · rw [if_pos ⟨by omega, h2⟩, List.getElem?_append_left (by simp; omega), List.getElem?_append_right (by simp; omega), List.getD_eq_getElem?_getD]
      have : (L.take off).length = off := by simp; omega
      rw [this]
    · rw [if_neg (by omega), List.getElem?_append_right (by simp; omega), List.getElem?_drop, List.getD_eq_getElem?_getD]
      have : (L.take off ++ S).length = off + S.length := by simp; omega
      rw [this]
      congr 2
      omega

/-- One row of a plane. -/
def rowL (L : List Int) (w r : Nat) : List Int := (L.drop (r * w)).take w
theorem row_end {w h r : Nat} (hr : r < h) : r * w + w ≤ h * w := by
  have : (r + 1) * w ≤ h * w := Nat.mul_le_mul_right w hr
  rw [Nat.add_mul, Nat.one_mul] at this
  exact this
theorem rowL_len {L : List Int} {w h r : Nat} (hl : L.length = w * h) (hr : r < h) : (rowL L w r).length = w := by
  have := row_end (w := w) hr
  simp [rowL]
  rw [hl, Nat.mul_comm w h]
  omega
theorem rowL_at {L : List Int} {w r x : Nat} (hx : x < w) : (rowL L w r).getD x 0 = L.getD (r * w + x) 0 := by
  simp [rowL, List.getElem?_take_of_lt hx]
theorem grid_row {w h : Nat} (f : Nat → Nat → Int) {y : Nat} (hy : y < h) : ((gridL w h f).drop (y * w)).take w = (List.range w).map (f y) := by
  have hl := rowL_len (L := gridL w h f) (w := w) (h := h) (r := y) (gridL_len w h f) hy
  refine List.ext_getElem (by simpa [rowL] using hl) (fun i h1 h2 => ?_)
  have hi : i < w := by simpa using h2
  have e1 := rowL_at (L := gridL w h f) (w := w) (r := y) hi
  rw [gridL_at f hy hi] at e1
  have e2 : (rowL (gridL w h f) w y).getD i 0 = (rowL (gridL w h f) w y)[i]'(by rw [hl]; exact hi) := by
    rw [List.getD_eq_getElem?_getD, List.getElem?_eq_getElem (by rw [hl]; exact hi)]; rfl
  rw [e2] at e1
  simpa [rowL] using e1

/-- The sum of so many numbers. -/
theorem sumK_row {L : List Int} {w r a : Nat} : ∀ c, a + c ≤ w → sumK (rowL L w r) 0 a c = sumK L (r * w) a c
  | 0, _ => rfl
  | c + 1, h => by
    rw [sumK, sumK, sumK_row c (by omega), Nat.zero_add, rowL_at (by omega)]
/-- The sums of columns over so many rows. -/
def colS (L : List Int) (w r0 x : Nat) : Nat → Int
  | 0 => 0
  | j + 1 => colS L w r0 x j + L.getD ((r0 + j) * w + x) 0
def colsL (L : List Int) (w r0 R : Nat) : List Int := (List.range w).map fun x => colS L w r0 x R
theorem colsL_len (L : List Int) (w r0 R : Nat) : (colsL L w r0 R).length = w := by simp [colsL]
theorem colsL_at (L : List Int) (w r0 R x : Nat) (hx : x < w) : (colsL L w r0 R).getD x 0 = colS L w r0 x R := by simp [colsL, hx]
theorem colsL_zero (L : List Int) (w r0 : Nat) : colsL L w r0 0 = List.replicate w 0 := by
  refine List.ext_getElem (by simp [colsL]) (fun i h1 h2 => ?_)
  simp [colsL, colS]
theorem sumK_none {w r0 : Nat} {L : List Int} {a : Nat} : ∀ c, a + c ≤ w → sumK (colsL L w r0 0) 0 a c = 0
  | 0, _ => rfl
  | c + 1, h => by
    rw [sumK, sumK_none c (by omega), Nat.zero_add, colsL_at _ _ _ _ _ (by omega)]; rfl
theorem sumK_next {w r0 R : Nat} {L : List Int} {a : Nat} : ∀ c, a + c ≤ w → sumK (colsL L w r0 (R + 1)) 0 a c = sumK (colsL L w r0 R) 0 a c + sumK L ((r0 + R) * w) a c
  | 0, _ => rfl
  | c + 1, h => by
    rw [sumK, sumK, sumK, sumK_next c (by omega), Nat.zero_add, colsL_at _ _ _ _ _ (by omega), colsL_at _ _ _ _ _ (by omega), colS]
    omega
theorem sumK_cols {w r0 : Nat} {L : List Int} {a c : Nat} (h : a + c ≤ w) : ∀ R, sumK (colsL L w r0 R) 0 a c = sumR L w r0 a c R
  | 0 => by rw [sumK_none c h]; rfl
  | R + 1 => by rw [sumK_next c h, sumK_cols h R]; rfl
theorem colS_in {L : List Int} {w r0 x : Nat} (hL : ∀ i, 0 ≤ L.getD i 0 ∧ L.getD i 0 ≤ 4095) : ∀ R, 0 ≤ colS L w r0 x R ∧ colS L w r0 x R ≤ 4095 * R
  | 0 => by simp [colS]
  | R + 1 => by
    have h1 := colS_in (w := w) (r0 := r0) (x := x) hL R
    have h2 := hL ((r0 + R) * w + x)
    rw [colS]
    omega
theorem sum_take {S : List Int} {a : Nat} : ∀ c, a + c ≤ S.length → ((S.drop a).take c).sum = sumK S 0 a c
  | 0, _ => by simp [sumK]
  | c + 1, h => by
    have hl : c < (S.drop a).length := by simp; omega
    rw [sumK, ← sum_take c (by omega), List.take_succ_eq_append_getElem hl, List.sum_append]
    simp
    rw [List.getElem?_eq_getElem (by omega)]
    simp

/-- A row of means. -/
def meansL (S : List Int) (nw deep : Nat) : List Int := (List.range nw).map fun x => meanI (sumK S 0 (fromN S.length nw x) (toN S.length nw x - fromN S.length nw x)) (deep * (toN S.length nw x - fromN S.length nw x))
theorem meansL_len (S : List Int) (nw deep : Nat) : (meansL S nw deep).length = nw := by simp [meansL]
theorem meansL_at (S : List Int) (nw deep x : Nat) (hx : x < nw) : (meansL S nw deep).getD x 0 = meanI (sumK S 0 (fromN S.length nw x) (toN S.length nw x - fromN S.length nw x)) (deep * (toN S.length nw x - fromN S.length nw x)) := by simp [meansL, hx]
theorem means_one {L : List Int} {w h nw nh y : Nat} (hl : L.length = w * h) (hw : 1 ≤ w) (hy : y < nh) (h1 : toN h nh y - fromN h nh y = 1) : meansL (rowL L w (fromN h nh y)) nw 1 = (List.range nw).map (shrinkF L w h nw nh y) := by
  have hr : fromN h nh y < h := by have := to_le (m := h) hy; omega
  unfold meansL
  refine List.map_congr_left (fun x hx => ?_)
  have hx' : x < nw := List.mem_range.1 hx
  have tk := to_le (m := w) hx'
  have hk := from_to (m := w) (n := nw) (k := x) (by omega) hw
  rw [rowL_len hl hr, shrinkF, h1, sumK_row _ (by omega)]
  simp [sumR]
theorem means_more {L : List Int} {w h nw nh y : Nat} (hw : 1 ≤ w) : meansL (colsL L w (fromN h nh y) (toN h nh y - fromN h nh y)) nw (toN h nh y - fromN h nh y) = (List.range nw).map (shrinkF L w h nw nh y) := by
  unfold meansL
  refine List.map_congr_left (fun x hx => ?_)
  have hx' : x < nw := List.mem_range.1 hx
  have tk := to_le (m := w) hx'
  have hk := from_to (m := w) (n := nw) (k := x) (by omega) hw
  rw [colsL_len, shrinkF, sumK_cols (by omega)]

end Go.Proofs.Ytkefpjbdkhifhaa

namespace Go.Proofs.Ytkefpjbdkhifhaa
open Go.RowKit

def ToC {α : Type} (f : Nat) (Q : World → Value → α → Prop) (P : World → Value → α → List Nat → Prop) (sz : α → Nat) : Prop :=
  ∀ (w : World) (u : Value) (a : α), Q w u a → sz a ≤ 1048576 → Calls Try.prog f #[u] w fun e w' => ∃ u' F, e = .returned u' ∧ P w' u' a F ∧ F.Nodup ∧ (∀ g ∈ F, w.heap.size ≤ g) ∧ w.grownBy w' none
def EqC {α : Type} (f : Nat) (Q : World → Value → α → Prop) (sz : α → Nat) : Prop :=
  ∀ (w : World) (u u' : Value) (a : α), Q w u a → Q w u' a → sz a ≤ 1048576 → Calls Try.prog f #[u, u'] w fun e w' => e = .returned (.bool true) ∧ w.grownBy w' none
def MarkC {α : Type} (f : Nat) (P : World → Value → α → List Nat → Prop) (mk : α → Int → α) (cnt sz : α → Nat) : Prop :=
  ∀ (w : World) (u : Value) (a : α) (F : List Nat) (k : Int), P w u a F → F.Nodup → sz a ≤ 1048576 → 0 ≤ k → k + cnt a ≤ 16777216 → Calls Try.prog f #[u, .int .i64 k] w fun e w' => e = .returned (.int .i64 (k + cnt a)) ∧ P w' u (mk a k) F ∧ Wr F w w'
def HeldC {α : Type} (f : Nat) (Q : World → Value → α → Prop) (mk : α → Int → α) (cnt sz : α → Nat) : Prop :=
  ∀ (w : World) (u : Value) (a : α) (k : Int), Q w u (mk a k) → sz a ≤ 1048576 → 0 ≤ k → k + cnt a ≤ 16777216 → Calls Try.prog f #[u, .int .i64 k] w fun e w' => e = .returned (.int .i64 (k + cnt a)) ∧ w.grownBy w' none
/-- How much there is, as the laws count it: within what is left, or not. -/
def SzC {α : Type} (f : Nat) (Q : World → Value → α → Prop) (sz : α → Nat) : Prop :=
  ∀ (w : World) (u : Value) (a : α) (left : Nat), Q w u a → left ≤ 1048576 → Calls Try.prog f #[u, .int .i64 left] w fun e w' => e = .returned (.int .i64 (if sz a ≤ left then (left : Int) - sz a else -1)) ∧ w' = w

/-- What came in is no longer than a slice can be. -/
def RdZ {β : Type} (Q : World → Value → List β → Prop) (w : World) (v : Value) (L : List β) : Prop := Q w v L ∧ L.length ≤ maxLen

def sumN : List Nat → Nat
  | [] => 0
  | x :: r => x + sumN r
theorem sumN_append : ∀ a b : List Nat, sumN (a ++ b) = sumN a + sumN b
  | [], b => by simp [sumN]
  | x :: r, b => by simp [sumN, sumN_append r b]; omega
def cntR {α : Type} (cnt : α → Nat) (L : List α) : Nat := sumN (L.map cnt)
def szR {α : Type} (sz : α → Nat) (L : List α) : Nat := L.length + sumN (L.map sz)
def mkR {α : Type} (mk : α → Int → α) (cnt : α → Nat) : List α → Int → List α
  | [], _ => []
  | a :: r, k => mk a k :: mkR mk cnt r (k + cnt a)
theorem mkR_len {α : Type} (mk : α → Int → α) (cnt : α → Nat) : ∀ (L : List α) (k : Int), (mkR mk cnt L k).length = L.length
  | [], _ => rfl
  | a :: r, k => by rw [mkR, List.length_cons, List.length_cons, mkR_len mk cnt r]
theorem take_next {α β : Type} (f : α → β) (L : List α) (i : Nat) (h : i < L.length) : (L.take (i + 1)).map f = (L.take i).map f ++ [f L[i]] := by
  rw [List.take_succ_eq_append_getElem h, List.map_append]; rfl
theorem cntR_next {α : Type} (cnt : α → Nat) (L : List α) (i : Nat) (h : i < L.length) : cntR cnt (L.take (i + 1)) = cntR cnt (L.take i) + cnt L[i] := by
  unfold cntR; rw [take_next cnt L i h, sumN_append]; simp [sumN]
theorem cntR_le {α : Type} (cnt : α → Nat) (L : List α) (i : Nat) : cntR cnt (L.take i) ≤ cntR cnt L := by
  have e : L.map cnt = (L.take i).map cnt ++ (L.drop i).map cnt := by rw [← List.map_append, List.take_append_drop]
  unfold cntR; rw [e, sumN_append]; omega
theorem cntR_all {α : Type} (cnt : α → Nat) (L : List α) : cntR cnt (L.take L.length) = cntR cnt L := by rw [List.take_length]
theorem szR_el {α : Type} (sz : α → Nat) (L : List α) (i : Nat) (h : i < L.length) : L.length ≤ szR sz L ∧ sz L[i] ≤ szR sz L := by
  have h1 := cntR_next sz L i h
  have h2 := cntR_le sz L (i + 1)
  have h3 : cntR sz L = sumN (L.map sz) := rfl
  unfold szR
  omega
theorem szR_len {α : Type} (sz : α → Nat) (L : List α) : L.length ≤ szR sz L := by unfold szR; omega
theorem mkR_at {α : Type} (mk : α → Int → α) (cnt : α → Nat) : ∀ (L : List α) (k : Int) (i : Nat) (h : i < L.length), (mkR mk cnt L k)[i]'(by rw [mkR_len]; exact h) = mk L[i] (k + cntR cnt (L.take i))
  | a :: r, k, 0, _ => by simp [mkR, cntR, sumN]
  | a :: r, k, i + 1, h => by
    have hi : i < r.length := by simpa using h
    have ih := mkR_at mk cnt r (k + cnt a) i hi
    have e : cntR cnt ((a :: r).take (i + 1)) = cnt a + cntR cnt (r.take i) := by simp [cntR, sumN]
    simp only [mkR, List.getElem_cons_succ, ih, e]
    congr 1
    omega
/-- So far marked. -/
def overR {α : Type} (mk : α → Int → α) (cnt : α → Nat) (L : List α) (k : Int) (i : Nat) : List α := mkR mk cnt (L.take i) k ++ L.drop i
theorem overR_len {α : Type} (mk : α → Int → α) (cnt : α → Nat) (L : List α) (k : Int) (i : Nat) (h : i ≤ L.length) : (overR mk cnt L k i).length = L.length := by
  unfold overR; rw [List.length_append, mkR_len, List.length_take, List.length_drop]; omega
theorem overR_at {α : Type} (mk : α → Int → α) (cnt : α → Nat) (L : List α) (k : Int) (i : Nat) (h : i < L.length) : (overR mk cnt L k i)[i]'(by rw [overR_len _ _ _ _ _ (by omega)]; exact h) = L[i] := by
  unfold overR
  rw [List.getElem_append_right (by rw [mkR_len, List.length_take]; omega)]
  simp only [mkR_len, List.length_take, List.getElem_drop]
  congr 1
  omega
theorem mkR_snoc {α : Type} (mk : α → Int → α) (cnt : α → Nat) : ∀ (A : List α) (b : α) (k : Int), mkR mk cnt (A ++ [b]) k = mkR mk cnt A k ++ [mk b (k + cntR cnt A)]
  | [], b, k => by simp [mkR, cntR, sumN]
  | a :: r, b, k => by
    rw [List.cons_append, mkR, mkR_snoc mk cnt r b, mkR, List.cons_append]
    have e : cntR cnt (a :: r) = cnt a + cntR cnt r := by simp [cntR, sumN]
    rw [e]
    congr 4
    omega
theorem overR_set {α : Type} (mk : α → Int → α) (cnt : α → Nat) (L : List α) (k : Int) (i : Nat) (h : i < L.length) : (overR mk cnt L k i).set i (mk L[i] (k + cntR cnt (L.take i))) = overR mk cnt L k (i + 1) := by
  unfold overR
  have hl : (mkR mk cnt (L.take i) k).length = i := by rw [mkR_len, List.length_take]; omega
  rw [List.set_append_right _ _ (by omega), hl, Nat.sub_self, List.drop_eq_getElem_cons h, List.set_cons_zero, List.take_succ_eq_append_getElem h, mkR_snoc, List.append_assoc]
  rfl
theorem overR_all {α : Type} (mk : α → Int → α) (cnt : α → Nat) (L : List α) (k : Int) : overR mk cnt L k L.length = mkR mk cnt L k := by unfold overR; rw [List.take_length, List.drop_length, List.append_nil]

/-- The numbers of a row. -/
def lenI (xs : List Int) : Nat := xs.length
def mkI (xs : List Int) (k : Int) : List Int := marks .i64 k xs.length

end Go.Proofs.Ytkefpjbdkhifhaa

namespace Go.Proofs.Ytkefpjbdkhifhaa
open Go.RowKit

theorem toIntSC : ToC 30 (RdI .i64) (OwI .i64 3) lenI := by
  rintro w u a ⟨ao, cap, rfl, hr⟩ hs
  refine (toIntS ao a.length cap a w hr (by unfold lenI at hs; omega)).mono ?_
  rintro e w' ⟨rfl, ho, hg⟩
  exact ⟨_, _, rfl, OwI.of ho, blk_nodup _, fun g hx => by have : w.heap.size = g := Option.some.inj (mem_blk.1 hx); omega, hg⟩

theorem eqIntSC : EqC 32 (RdI .i64) lenI := by
  rintro w u u' a ⟨ao, cap, rfl, hr⟩ ⟨bo, cap', rfl, hr'⟩ hs
  exact eqIntS ao bo a.length cap cap' a w hr hr' (by unfold lenI at hs; omega)

theorem markIntSC : MarkC 33 (OwI .i64 3) mkI lenI lenI := by
  rintro w u a F k ⟨ho, rfl⟩ _ hs h0 h1
  obtain ⟨ao, cap, rfl⟩ := own_form ho
  unfold lenI at hs h1
  refine (markIntS ao a.length cap 0 _ k w ho (by omega) h0 (by omega)).mono ?_
  rintro e w' ⟨rfl, ho2, hg⟩
  have hl : (mkI a k).length = a.length := by unfold mkI; rw [marks_len]
  refine ⟨rfl, ⟨?_, rfl⟩, Wr.ofRow hg (fun g e => mem_blk.2 e)⟩
  rw [hl]
  exact ho2

theorem heldIntSC : HeldC 34 (RdI .i64) mkI lenI lenI := by
  rintro w u a k ⟨ao, cap, rfl, hr⟩ hs h0 h1
  have hl : (mkI a k).length = a.length := by unfold mkI; rw [marks_len]
  unfold lenI at hs h1
  rw [hl] at hr ⊢
  exact heldIntS ao a.length cap k w hr (by omega) h0 (by omega)

set_option maxHeartbeats 400000 in
theorem szIntSC : SzC 68 (RdZ (RdI .i64)) lenI := by
  rintro w u a left ⟨⟨ao, cap, rfl, _⟩, hm⟩ hl
  unfold maxLen at hm
  unfold lenI
  generalize a.length = n at *
  have e1 := i64_in ((left : Int) - (n : Int)) (by omega)
  by_cases h : n ≤ left
  · have hd : decide ((left : Int) - (n : Int) < 0) = false := decide_eq_false (by omega)
    rw [if_pos h]
    go_enter Try.func68, Try.ntmps68
    go_wp2
    go_ret
    exact ⟨rfl, rfl⟩
  · have hd : decide ((left : Int) - (n : Int) < 0) = true := decide_eq_true (by omega)
    rw [if_neg h]
    go_enter Try.func68, Try.ntmps68
    go_wp2
    go_ret
    exact ⟨rfl, rfl⟩

theorem ok1 : OwOk (OwI .i64 3) := OwI.ok .i64 3

end Go.Proofs.Ytkefpjbdkhifhaa

namespace Go.Proofs.Ytkefpjbdkhifhaa
open Go.RowKit

theorem infoIntSS : (Try.prog.info? 24).map (fun i => (i.zero, i.size, i.bytes)) = some (some (.slice none 0 0), 1, 24) := by kernel_rfl

abbrev Rd2 := RdR (RdI .i64)

abbrev Ow2 := OwR 24 (OwI .i64 3)

theorem st2 : StR Rd2 := RdR.st (RdI.st .i64)

theorem ok2 : OwOk Ow2 := OwR.ok ok1

theorem Ow2.rd {w : World} {v : Value} {L : List (List Int)} {F : List Nat} (h : Ow2 w v L F) : Rd2 w v L := OwR.rd (fun _ _ _ _ h => OwI.rd h) h

end Go.Proofs.Ytkefpjbdkhifhaa

namespace Go.Proofs.Ytkefpjbdkhifhaa
open Go.RowKit

theorem append_rowR {α : Type} {P : World → Value → α → List Nat → Prop} (hP : OwOk P) {e T : TypeId} (hT : Try.prog.underlying T = some (.slice e)) (hI : (Try.prog.info? e).map (fun i => (i.zero, i.size, i.bytes)) = some (some (.slice none 0 0), 1, 24))
    {w : World} {ops : Array Oper} {rest : List Oper} {o : Oper} {a : Act} {Q : Exit → Act → World → Prop} (hgd : o.guard = none) (s x : Operand)
    (ho : o.op = .call { callee := .builtin .append, args := #[s, x], argTypes := #[T, T] })
    (v : Value) (L : List α) (F : List Nat) (hs : a.eval s = v) (hown : OwR e P w v L F) (hF : F.Nodup) (u : Value) (b : α) (Fb : List Nat) (hu : P w u b Fb) (hFb : Fb.Nodup) (hd : ∀ x ∈ Fb, x ∉ F) (hx : a.eval x = .slice (some ⟨w.heap.size, 0, none⟩) 1 1) (hb : L.length ≤ 1000000) (R : List α) (hR : L ++ [b] = R)
    (h : ∀ v' w' F', OwR e P w' v' R F' → F'.Nodup → (∀ x ∈ F', x ∈ F ∨ x ∈ Fb ∨ w.heap.size ≤ x) → Wr (blk v) w w' → wpList Try.prog ops Q rest (a.put o.dst v') w') :
    wpList Try.prog ops Q (o :: rest) a (w.alloc (.cells #[u] e)) := by
  subst hR
  obtain ⟨i0, hi, hz0, hz1, hz2⟩ := info_parts hI
  obtain ⟨us, Fs, l1, l2, o1, els, rfl⟩ := hown
  obtain ⟨uo, un, uc, rfl⟩ := hP.form _ _ _ _ hu
  have hn := List.nodup_append.1 hF
  refine wpList_append_own_at _ hgd s x T ho 0 e i0 _ 1 24 hT hi hz0 hz1 hz2 rfl (by decide) v L.length _ hs (o1.alloc _) ⟨w.heap.size, 0, none⟩ 1 1 [.slice uo un uc] hx rfl (World.news_of_block (cs := #[.slice uo un uc]) (t := e) (fr := (0, 0)) (heap_alloc_new w _)) (by intro y hy; simp at hy; subst hy; rfl) (by unfold maxLen; omega) (by omega) (Nat.zero_le _) ?_
  intro v' w' h1 h2 _ h4
  have hga : w.grownBy w' v.ownBlock := ⟨h2.os, h2.tape, h2.output, by have h := h2.size; simp at h; omega, fun k hk hr => (h2.block k (by simp; omega) hr).trans (Below.heap_alloc _ _ _ hk)⟩
  have hw : Wr (blk v) w w' := Wr.ofRow hga (fun g e => mem_blk.2 e)
  have hvb : ∀ y, y ∈ blk v' → y ∈ blk v ∨ w.heap.size ≤ y := fun y hy => by
    rcases h4 with h4 | h4
    · exact .inl (mem_blk.2 (by rw [← h4]; exact mem_blk.1 hy))
    · have e1 := mem_blk.1 hy
      rw [h4] at e1
      have e2 : (w.alloc (.cells #[.slice uo un uc] e)).heap.size = y := Option.some.inj e1
      exact .inr (by simp at e2; omega)
  have hfl : (Fs ++ [Fb]).flatten = Fs.flatten ++ Fb := by simp
  have hlt : ∀ y ∈ Fs.flatten, y < w.heap.size := fun y hy => by
    obtain ⟨l, hl, hyl⟩ := List.mem_flatten.1 hy
    obtain ⟨i, hi, rfl⟩ := List.mem_iff_getElem.1 hl
    exact hP.lt w _ _ _ (els i (by omega)) y (by simpa [hi] using hyl)
  refine h v' w' (blk v' ++ (Fs ++ [Fb]).flatten) ⟨us ++ [.slice uo un uc], Fs ++ [Fb], by simp [l1], by simp [l2], ?_, fun i hi => ?_, rfl⟩ ?_ ?_ hw
  · rw [List.length_append]; exact h1
  · by_cases hil : i < L.length
    · have e1 : (us ++ [Value.slice uo un uc]).getD i (.slice none 0 0) = us.getD i (.slice none 0 0) := by simp [List.getElem?_append_left (show i < us.length by omega)]
      have e2 : (Fs ++ [Fb]).getD i [] = Fs.getD i [] := by simp [List.getElem?_append_left (show i < Fs.length by omega)]
      rw [e1, e2, List.getElem_append_left hil]
      exact hP.wr (els i hil) hw (fun y hy hy2 => hn.2.2 y hy2 y (flat_in (by omega) y hy) rfl)
    · have hie : i = L.length := by rw [List.length_append] at hi; simp at hi; omega
      subst hie
      have e1 : (us ++ [Value.slice uo un uc]).getD L.length (.slice none 0 0) = .slice uo un uc := by rw [← l1]; simp
      have e2 : (Fs ++ [Fb]).getD L.length [] = Fb := by rw [← l2]; simp
      rw [e1, e2, List.getElem_append_right (Nat.le_refl _)]
      simp only [Nat.sub_self, List.getElem_cons_zero]
      exact hP.wr hu hw (fun y hy hy2 => hd y hy (by simp [hy2]))
  · rw [hfl]
    refine List.nodup_append.2 ⟨by unfold blk; cases v'.ownBlock <;> simp, List.nodup_append.2 ⟨hn.2.1, hFb, fun y hy z hz => ?_⟩, fun y hy z hz => ?_⟩
    · rintro rfl
      exact hd y hz (by simp [hy])
    · rintro rfl
      rcases List.mem_append.1 hz with hz | hz
      · rcases hvb y hy with h5 | h5
        · exact hn.2.2 y h5 y hz rfl
        · have := hlt y hz; omega
      · rcases hvb y hy with h5 | h5
        · exact hd y hz (by simp [h5])
        · have := hP.lt w _ _ _ hu y hz; omega
  · intro y hy
    rw [hfl] at hy
    rcases List.mem_append.1 hy with hy | hy
    · rcases hvb y hy with h5 | h5
      · exact .inl (by simp [h5])
      · exact .inr (.inr h5)
    · rcases List.mem_append.1 hy with hy | hy
      · exact .inl (by simp [hy])
      · exact .inr (.inl hy)

/-- The same, in a region that draws its order. -/
theorem step_append_rowR {α : Type} {P : World → Value → α → List Nat → Prop} (hP : OwOk P) {e T : TypeId} (hT : Try.prog.underlying T = some (.slice e)) (hI : (Try.prog.info? e).map (fun i => (i.zero, i.size, i.bytes)) = some (some (.slice none 0 0), 1, 24))
    {w : World} {ops : Array Oper} {o : Oper} {a : Act} {K : Act → World → Prop} {Q : Exit → Act → World → Prop} {E : Prop} (hgd : o.guard = none) (s x : Operand)
    (ho : o.op = .call { callee := .builtin .append, args := #[s, x], argTypes := #[T, T] })
    (v : Value) (L : List α) (F : List Nat) (hs : a.eval s = v) (hown : OwR e P w v L F) (hF : F.Nodup) (u : Value) (b : α) (Fb : List Nat) (hu : P w u b Fb) (hFb : Fb.Nodup) (hd : ∀ x ∈ Fb, x ∉ F) (hx : a.eval x = .slice (some ⟨w.heap.size, 0, none⟩) 1 1) (hb : L.length ≤ 1000000) (R : List α) (hR : L ++ [b] = R)
    (h : ∀ v' w' F', OwR e P w' v' R F' → F'.Nodup → (∀ x ∈ F', x ∈ F ∨ x ∈ Fb ∨ w.heap.size ≤ x) → Wr (blk v) w w' → K (a.put o.dst v') w') :
    if Region.wanted o (yielded ops a.tmps) = true then Oper.wp Try.prog o a (w.alloc (.cells #[u] e)) K Q else E := by
  subst hR
  obtain ⟨i0, hi, hz0, hz1, hz2⟩ := info_parts hI
  obtain ⟨us, Fs, l1, l2, o1, els, rfl⟩ := hown
  obtain ⟨uo, un, uc, rfl⟩ := hP.form _ _ _ _ hu
  have hn := List.nodup_append.1 hF
  refine step_append_lies _ hgd s x T ho 0 e i0 _ 1 24 hT hi hz0 hz1 hz2 rfl (by decide) v L.length _ hs (o1.alloc _) ⟨w.heap.size, 0, none⟩ 1 1 [.slice uo un uc] hx rfl (World.news_of_block (cs := #[.slice uo un uc]) (t := e) (fr := (0, 0)) (heap_alloc_new w _)) (by intro y hy; simp at hy; subst hy; rfl) (by omega) (by unfold maxLen; omega) (by omega) (Nat.zero_le _) _ rfl ?_
  intro g0 cap0 w' h1 h2 h4' _
  obtain ⟨v', hv'⟩ : ∃ v', Value.slice (some ⟨g0, 0, none⟩) (L.length + 1) cap0 = v' := ⟨_, rfl⟩
  have h4 : v'.ownBlock = v.ownBlock ∨ v'.ownBlock = some (w.alloc (.cells #[.slice uo un uc] e)).heap.size := by
    rcases h4' with h5 | h5
    · left; rw [← hv', h5]; rfl
    · right; rw [← hv', ← h5]; rfl
  rw [hv'] at h1 ⊢
  clear hv' h4'
  have hga : w.grownBy w' v.ownBlock := ⟨h2.os, h2.tape, h2.output, by have h := h2.size; simp at h; omega, fun k hk hr => (h2.block k (by simp; omega) hr).trans (Below.heap_alloc _ _ _ hk)⟩
  have hw : Wr (blk v) w w' := Wr.ofRow hga (fun g e => mem_blk.2 e)
  have hvb : ∀ y, y ∈ blk v' → y ∈ blk v ∨ w.heap.size ≤ y := fun y hy => by
    rcases h4 with h4 | h4
    · exact .inl (mem_blk.2 (by rw [← h4]; exact mem_blk.1 hy))
    · have e1 := mem_blk.1 hy
      rw [h4] at e1
      have e2 : (w.alloc (.cells #[.slice uo un uc] e)).heap.size = y := Option.some.inj e1
      exact .inr (by simp at e2; omega)
  have hfl : (Fs ++ [Fb]).flatten = Fs.flatten ++ Fb := by simp
  have hlt : ∀ y ∈ Fs.flatten, y < w.heap.size := fun y hy => by
    obtain ⟨l, hl, hyl⟩ := List.mem_flatten.1 hy
    obtain ⟨i, hi, rfl⟩ := List.mem_iff_getElem.1 hl
    exact hP.lt w _ _ _ (els i (by omega)) y (by simpa [hi] using hyl)
  refine h v' w' (blk v' ++ (Fs ++ [Fb]).flatten) ⟨us ++ [.slice uo un uc], Fs ++ [Fb], by simp [l1], by simp [l2], ?_, fun i hi => ?_, rfl⟩ ?_ ?_ hw
  · rw [List.length_append]; exact h1
  · by_cases hil : i < L.length
    · have e1 : (us ++ [Value.slice uo un uc]).getD i (.slice none 0 0) = us.getD i (.slice none 0 0) := by simp [List.getElem?_append_left (show i < us.length by omega)]
      have e2 : (Fs ++ [Fb]).getD i [] = Fs.getD i [] := by simp [List.getElem?_append_left (show i < Fs.length by omega)]
      rw [e1, e2, List.getElem_append_left hil]
      exact hP.wr (els i hil) hw (fun y hy hy2 => hn.2.2 y hy2 y (flat_in (by omega) y hy) rfl)
    · have hie : i = L.length := by rw [List.length_append] at hi; simp at hi; omega
      subst hie
      have e1 : (us ++ [Value.slice uo un uc]).getD L.length (.slice none 0 0) = .slice uo un uc := by rw [← l1]; simp
      have e2 : (Fs ++ [Fb]).getD L.length [] = Fb := by rw [← l2]; simp
      rw [e1, e2, List.getElem_append_right (Nat.le_refl _)]
      simp only [Nat.sub_self, List.getElem_cons_zero]
      exact hP.wr hu hw (fun y hy hy2 => hd y hy (by simp [hy2]))
  · rw [hfl]
    refine List.nodup_append.2 ⟨by unfold blk; cases v'.ownBlock <;> simp, List.nodup_append.2 ⟨hn.2.1, hFb, fun y hy z hz => ?_⟩, fun y hy z hz => ?_⟩
    · rintro rfl
      exact hd y hz (by simp [hy])
    · rintro rfl
      rcases List.mem_append.1 hz with hz | hz
      · rcases hvb y hy with h5 | h5
        · exact hn.2.2 y h5 y hz rfl
        · have := hlt y hz; omega
      · rcases hvb y hy with h5 | h5
        · exact hd y hz (by simp [h5])
        · have := hP.lt w _ _ _ hu y hz; omega
  · intro y hy
    rw [hfl] at hy
    rcases List.mem_append.1 hy with hy | hy
    · rcases hvb y hy with h5 | h5
      · exact .inl (by simp [h5])
      · exact .inr (.inr h5)
    · rcases List.mem_append.1 hy with hy | hy
      · exact .inl (by simp [hy])
      · exact .inr (.inl hy)

end Go.Proofs.Ytkefpjbdkhifhaa

namespace Go.Proofs.Ytkefpjbdkhifhaa
open Go.RowKit

def cutG (L : List Int) (w h : Int) : List (List Int) := if planeB L w h && decide (w % 8 = 0) && decide (h % 8 = 0) then cutL L w.toNat h.toNat else []
def cutF (L : List Int) (w j : Nat) : List Int := (List.range 64).map fun i => L.getD ((8 * (j / (w / 8)) + i / 8) * w + 8 * (j % (w / 8)) + i % 8) 0
theorem cutF_len (L : List Int) (w j : Nat) : (cutF L w j).length = 64 := by simp [cutF]
theorem cutL_take (L : List Int) (w h c : Nat) (hc : c < h / 8 * (w / 8)) : (cutL L w h).take c ++ [cutF L w c] = (cutL L w h).take (c + 1) := by
  have hl : c < (cutL L w h).length := by simp [cutL]; exact hc
  rw [List.take_succ_eq_append_getElem hl]
  simp [cutL, cutF]
theorem cutF_take (L : List Int) (w j i : Nat) (hi : i < 64) (z : Int) (hz : L.getD ((8 * (j / (w / 8)) + i / 8) * w + 8 * (j % (w / 8)) + i % 8) 0 = z) : (cutF L w j).take i ++ [z] = (cutF L w j).take (i + 1) := by
  have hl : i < (cutF L w j).length := by rw [cutF_len]; exact hi
  rw [List.take_succ_eq_append_getElem hl, ← hz]
  simp [cutF]
theorem own_lit0 (W : World) (base : Nat) (hb : base ≤ W.heap.size) (e : TypeId) : (W.alloc (.cells #[] e)).ownsRow base e 1 (.slice (some ⟨W.heap.size, 0, none⟩) 0 0) 0 [] :=
  own_base (World.ownsRow_lit W #[] 0 (Nat.le_refl _) (by unfold maxLen; omega) rfl) hb
theorem OwR.none16 {α : Type} {e : TypeId} (P : World → Value → α → List Nat → Prop) {w : World} {v : Value} {base : Nat} (h : w.ownsRow base e 1 v 0 []) : OwR e P w v [] (blk v) :=
  ⟨[], [], rfl, rfl, own_base h (Nat.zero_le _), fun i hi => absurd hi (by simp), by simp⟩
theorem blk_once (v : Value) : (blk v).Nodup := by unfold blk; cases v.ownBlock <;> simp
theorem OwR.head16 {α : Type} {e : TypeId} {P : World → Value → α → List Nat → Prop} {w : World} {v : Value} {L : List α} {F : List Nat} (h : OwR e P w v L F) : ∀ x ∈ blk v, x ∈ F := by
  obtain ⟨us, Fs, _, _, _, _, rfl⟩ := h
  intro x hx
  simp [hx]

set_option maxRecDepth 20000 in
set_option maxHeartbeats 6400000 in
theorem specCutBlocks (ao : Option Addr) (n cap : Nat) (zs : List Int) (w h : Int) (W : World) (hr : Rd .i64 W ao n zs) (hn : n ≤ 9223372036854775807) (L : List (List Int)) (HL : Hid (cutG zs w h = L)) :
    Calls Try.prog 24 #[.slice ao n cap, .int .i64 w, .int .i64 h] W fun e W' => (∃ v F, e = .returned v ∧ Ow2 W' v L F ∧ F.Nodup ∧ ∀ x ∈ F, W.heap.size ≤ x) ∧ W.grownBy W' none := by
  have HO0 : Hid ((W.alloc (.cells #[] 24)).ownsRow W.heap.size 24 1 (.slice (some ⟨W.heap.size, 0, none⟩) 0 0) 0 []) := own_lit0 W _ (Nat.le_refl _) _
  have HR0 := hide hr
  have HR := hide (hr.grown (World.grownBy_alloc W (.cells #[] 24) none))
  have HN := hide hr.1
  clear hr
  obtain ⟨pb, HP⟩ : ∃ y, Hid (planeB zs w h = y) := ⟨_, rfl⟩
  go_enter Try.func24, Try.ntmps24
  go_wp2_with fail
  refine (specPlaneOk ao n cap zs w h _ (unhide HR) hn pb HP).mono ?_
  rintro e w1 ⟨rfl, g1⟩
  have HGW : Hid (W.grownBy w1 none) := grown_trans (World.grownBy_alloc _ _ _) g1
  have ho := own_grown (unhide HO0) g1
  have HOW : Hid (Ow2 w1 (.slice (some ⟨W.heap.size, 0, none⟩) 0 0) [] (blk (.slice (some ⟨W.heap.size, 0, none⟩) 0 0))) := OwR.none16 _ ho
  have HLO : Hid (∀ x ∈ blk (.slice (some ⟨W.heap.size, 0, none⟩) 0 0), W.heap.size ≤ x) := fun x hx => (ho.lt x (mem_blk.1 hx)).1
  clear g1 HO0 HR ho
  cases pb with
  | false =>
    obtain rfl : L = [] := by rw [← unhide HL, cutG, unhide HP]; rfl
    go_wp2
    go_ret
    exact ⟨⟨_, _, rfl, unhide HOW, blk_once _, unhide HLO⟩, unhide HGW⟩
  | true =>
    have hpl := plane_of (unhide HP)
    have e1 : w.tmod 8 = w % 8 := Int.tmod_eq_emod_of_nonneg (by omega)
    have e2 : h.tmod 8 = h % 8 := Int.tmod_eq_emod_of_nonneg (by omega)
    have v1 := i64_in (w % 8) (by omega)
    have v2 := i64_in (h % 8) (by omega)
    by_cases h1 : ¬ w % 8 = 0
    · obtain rfl : L = [] := by rw [← unhide HL, cutG, decide_eq_false h1]; simp
      have d1 : (w % 8 != 0) = true := by simpa using h1
      go_wp2
      go_ret
      exact ⟨⟨_, _, rfl, unhide HOW, blk_once _, unhide HLO⟩, unhide HGW⟩
    have h1' : w % 8 = 0 := by omega
    have d1 : (w % 8 != 0) = false := by simp [h1']
    by_cases h2 : ¬ h % 8 = 0
    · obtain rfl : L = [] := by rw [← unhide HL, cutG, decide_eq_false h2]; simp
      have d2 : (h % 8 != 0) = true := by simpa using h2
      clear h1 h1'
      go_wp2
      go_ret
      exact ⟨⟨_, _, rfl, unhide HOW, blk_once _, unhide HLO⟩, unhide HGW⟩
    have h2' : h % 8 = 0 := by omega
    have d2 : (h % 8 != 0) = false := by simp [h2']
    obtain ⟨wN, rfl⟩ : ∃ k : Nat, w = (k : Int) := ⟨w.toNat, by omega⟩
    obtain ⟨hN, rfl⟩ : ∃ k : Nat, h = (k : Int) := ⟨h.toNat, by omega⟩
    obtain ⟨bw, HBW⟩ : ∃ k : Nat, Hid (wN / 8 = k) := ⟨_, rfl⟩
    obtain ⟨bh, HBH⟩ : ∃ k : Nat, Hid (hN / 8 = k) := ⟨_, rfl⟩
    have HLG : Hid (cutL zs wN hN = L) := by
      unfold Hid
      rw [← unhide HL, cutG, unhide HP, decide_eq_true h1', decide_eq_true h2']
      rfl
    have hlen : zs.length = wN * hN := by have := hpl.2.2.1; exact_mod_cast this
    have HLL : Hid (L.length = bh * bw) := by unfold Hid; rw [← unhide HLG, ← unhide HBW, ← unhide HBH]; simp [cutL]
    have hb1 : wN ≤ 1024 ∧ hN ≤ 1024 ∧ 1 ≤ wN ∧ 1 ≤ hN ∧ wN = 8 * bw ∧ hN = 8 * bh := by have := unhide HBW; have := unhide HBH; omega
    have HEQ := hide hb1
    have hbb : bw ≤ 128 ∧ bh ≤ 128 ∧ 1 ≤ bw ∧ 1 ≤ bh := by omega
    have HBD : Hid (bh * bw ≤ 131072) := by
      have : bh * bw ≤ 128 * 128 := Nat.mul_le_mul hbb.2.1 hbb.1
      unfold Hid; omega
    have f1 : (wN : Int).tdiv 8 = (bw : Int) := by rw [Int.tdiv_eq_ediv_of_nonneg (by omega)]; have := unhide HBW; omega
    have f2 : (hN : Int).tdiv 8 = (bh : Int) := by rw [Int.tdiv_eq_ediv_of_nonneg (by omega)]; have := unhide HBH; omega
    have f3 := i64_in (bw : Int) (by omega)
    have f4 := i64_in (bh : Int) (by omega)
    have HRA : Hid (Rd .i64 W ao n zs) := HR0
    have hpos : 0 < n := by
      have h3 := unhide HN
      have h4 : 0 < wN * hN := Nat.mul_pos (by omega) (by omega)
      omega
    obtain ⟨bb, off, rfl, _⟩ := (unhide HRA).2 0 hpos
    have HLEN := hide hlen
    clear hpl hlen HP HL hpos h1 h2 h1' h2' hb1
    go_wp2
    go_loopw [7, 8] (fun ov yv wr => ∃ (y c : Nat) (vo : Option Addr) (vn vc : Nat) (F : List Nat), y ≤ bh ∧ ov = .slice vo vn vc ∧ yv = .int .i64 y ∧ Hid (y * bw = c) ∧ Hid (Ow2 wr (.slice vo vn vc) (L.take c) F) ∧ Hid F.Nodup ∧ Hid (∀ x ∈ F, W.heap.size ≤ x) ∧ Hid (W.grownBy wr none)) (fun _ yv _ => bh - (intOf yv).toNat)
    case atStart => exact ⟨0, 0, _, _, _, _, by omega, rfl, by go_num, by simp [Hid], HOW, blk_once _, HLO, HGW⟩
    case round =>
      clear HOW HLO HGW
      obtain ⟨y, c0, vo, vn, vc, F0, hy, rfl, rfl, HC0, HOV, HFN, HFL, HGV⟩ := hrel
      by_cases hyl : y < bh
      · have hyI : (y : Int) < (bh : Int) := by omega
        have y1 := i64_in ((y : Int) + 1) (by omega)
        go_wp2
        go_loopw [7, 9] (fun ov xv wr => ∃ (x c : Nat) (vo : Option Addr) (vn vc : Nat) (F : List Nat), x ≤ bw ∧ ov = .slice vo vn vc ∧ xv = .int .i64 x ∧ Hid (y * bw + x = c) ∧ Hid (Ow2 wr (.slice vo vn vc) (L.take c) F) ∧ Hid F.Nodup ∧ Hid (∀ x ∈ F, W.heap.size ≤ x) ∧ Hid (W.grownBy wr none)) (fun _ xv _ => bw - (intOf xv).toNat)
        case atStart => exact ⟨0, c0, _, _, _, _, by omega, rfl, by go_num, HC0, HOV, HFN, HFL, HGV⟩
        case round =>
          clear HOV HFN HFL HGV HC0
          obtain ⟨x, c, vo, vn, vc, F, hx, rfl, rfl, HC, HOV, HFN, HFL, HGV⟩ := hrel
          by_cases hxl : x < bw
          · have hxI : (x : Int) < (bw : Int) := by omega
            have x1 := i64_in ((x : Int) + 1) (by omega)
            have hcl : c < bh * bw := by
              rw [← unhide HC]
              have := row_end (w := bw) hyl
              omega
            have HCD : Hid (c / bw = y ∧ c % bw = x) := by
              refine ⟨?_, ?_⟩
              · rw [← unhide HC, Nat.add_comm, Nat.add_mul_div_right _ _ (by omega), Nat.div_eq_of_lt hxl, Nat.zero_add]
              · rw [← unhide HC, Nat.add_comm, Nat.add_mul_mod_self_right, Nat.mod_eq_of_lt hxl]
            obtain ⟨B, HB⟩ : ∃ B, Hid (cutF zs wN c = B) := ⟨_, rfl⟩
            have HNX : Hid (L.take c ++ [B] = L.take (c + 1)) := by
              unfold Hid
              rw [← unhide HLG, ← unhide HB]
              exact cutL_take zs wN hN c (by rw [unhide HBW, unhide HBH]; exact hcl)
            have HCB : Hid ((L.take c).length ≤ 1000000) := by unfold Hid; rw [List.length_take, unhide HLL]; have := unhide HBD; omega
            obtain ⟨wb, HWB⟩ : ∃ wb, Hid (wb = wr) := ⟨_, rfl⟩
            have HOB : Hid ((wr.alloc (.cells #[] 3)).ownsRow wb.heap.size 3 1 (.slice (some ⟨wr.heap.size, 0, none⟩) 0 0) 0 ((B.take 0).map (Value.int .i64))) := by
              rw [unhide HWB]
              exact own_lit0 wr _ (Nat.le_refl _) _
            have HGB : Hid (wb.grownBy (wr.alloc (.cells #[] 3)) none) := by rw [unhide HWB]; exact World.grownBy_alloc _ _ _
            rw [← unhide HWB] at HOV HGV
            clear HWB
            go_wp2
            go_loopw [10, 11] (fun bv iv wr => ∃ (i : Nat), i ≤ 64 ∧ iv = .int .i64 i ∧ Hid (wr.ownsRow wb.heap.size 3 1 bv i ((B.take i).map (Value.int .i64))) ∧ Hid (wb.grownBy wr none)) (fun _ iv _ => 64 - (intOf iv).toNat)
            case atStart => exact ⟨0, by omega, by go_num, HOB, HGB⟩
            case round =>
              clear HOB HGB
              obtain ⟨i, hi, rfl, HOI, HGI⟩ := hrel
              by_cases hil : i < 64
              · have hiI : (i : Int) < 64 := by omega
                have hid : decide ((i : Int) < 64) = true := decide_eq_true hiI
                have i1 := i64_in ((i : Int) + 1) (by omega)
                obtain ⟨id8, HID⟩ : ∃ k : Nat, Hid (i / 8 = k) := ⟨_, rfl⟩
                obtain ⟨im8, HIM⟩ : ∃ k : Nat, Hid (i % 8 = k) := ⟨_, rfl⟩
                have hid8 : id8 < 8 := by have := unhide HID; omega
                have him8 : im8 < 8 := by have := unhide HIM; omega
                have q1 : (i : Int).tdiv 8 = (id8 : Int) := by rw [Int.tdiv_eq_ediv_of_nonneg (by omega)]; have := unhide HID; omega
                have q2 : (i : Int).tmod 8 = (im8 : Int) := by rw [Int.tmod_eq_emod_of_nonneg (by omega)]; have := unhide HIM; omega
                have q3 := i64_in (id8 : Int) (by omega)
                have q4 := i64_in (im8 : Int) (by omega)
                have q5 := i64_in (8 * (y : Int)) (by omega)
                have q6 := i64_in (8 * (y : Int) + (id8 : Int)) (by omega)
                obtain ⟨m1, HM1⟩ : ∃ k : Nat, Hid ((8 * y + id8) * wN = k) := ⟨_, rfl⟩
                have hro : 8 * y + id8 < hN := by have := unhide HEQ; omega
                have hre := row_end (w := wN) hro
                rw [unhide HM1, Nat.mul_comm hN wN] at hre
                have hwh : wN * hN ≤ 1048576 := Nat.mul_le_mul (show wN ≤ 1024 by have := unhide HEQ; omega) (show hN ≤ 1024 by have := unhide HEQ; omega)
                have q7 : IntKind.i64.wrap ((8 * (y : Int) + (id8 : Int)) * (wN : Int)) = (m1 : Int) := by
                  have e : (8 * (y : Int) + (id8 : Int)) * (wN : Int) = (m1 : Int) := by have := unhide HM1; exact_mod_cast this
                  rw [e, i64_in _ (by omega)]
                have q8 := i64_in (8 * (x : Int)) (by omega)
                have q9 := i64_in ((m1 : Int) + 8 * (x : Int)) (by omega)
                obtain ⟨ix, HIX⟩ : ∃ k : Nat, Hid (m1 + 8 * x + im8 = k) := ⟨_, rfl⟩
                have q10 : IntKind.i64.wrap ((m1 : Int) + 8 * (x : Int) + (im8 : Int)) = (ix : Int) := by
                  have := unhide HIX
                  rw [i64_in _ (by omega)]
                  omega
                have hixl : ix < n := by
                  have h1 := unhide HN
                  have h2 := unhide HLEN
                  have h3 := unhide HIX
                  have h4 := unhide HEQ
                  omega
                have hc : W.cell? ⟨bb, off + ix, none⟩ = some (.int .i64 (zs.getD ix 0)) := by
                  obtain ⟨b', o', e, hc⟩ := (unhide HRA).2 ix hixl
                  simp only [Option.some.injEq, Addr.mk.injEq, and_true] at e
                  rw [e.1, e.2]
                  exact hc
                have hcell := (unhide HGI).cell ((unhide HGV).cell hc (by simp)) (by simp)
                obtain ⟨z, HZ⟩ : ∃ z, Hid (zs.getD ix 0 = z) := ⟨_, rfl⟩
                rw [unhide HZ] at hcell
                have hixI : (ix : Int) < (n : Int) := by omega
                have HIN : Hid (B.take i ++ [z] = B.take (i + 1)) := by
                  unfold Hid
                  rw [← unhide HB]
                  refine cutF_take zs wN c i hil z ?_
                  rw [unhide HBW, (unhide HCD).1, (unhide HCD).2, unhide HID, unhide HIM, unhide HM1, unhide HIX, unhide HZ]
                have hib : i + 1 ≤ 1000000 := by omega
                clear hc hre hwh hro
                go_wp2_with ((at_builtin; refine append_i16 rfl _ _ rfl wb _ i (B.take i) rfl (unhide HOI) z rfl hib (unhide HGI) ?_; intro v' w' ho hg))
                have HO' := hide ho
                rw [unhide HIN] at HO'
                have HG' := hide hg
                clear ho hg
                go_roundw
                case rel => exact ⟨i + 1, by omega, by go_num, HO', HG'⟩
                case measure => simp [intOf]; omega
              · obtain rfl : i = 64 := by omega
                have hid : decide ((64 : Int) < 64) = false := by decide
                have eB : B.take 64 = B := List.take_of_length_le (by rw [← unhide HB, cutF_len]; exact Nat.le_refl _)
                rw [eB] at HOI
                have HBL : Hid (B.length = 64) := by rw [← unhide HB]; exact cutF_len _ _ _
                obtain ⟨uo, uc, rfl⟩ := own_form (unhide HOI)
                have HU : Hid (OwI .i64 3 wr (.slice uo 64 uc) B (blk (.slice uo 64 uc))) := ⟨by rw [unhide HBL]; exact own_base (unhide HOI) (Nat.zero_le _), rfl⟩
                have HO4 := hide (ok2.keep (unhide HOV) (unhide HGI))
                have HDU : Hid (∀ x ∈ blk (.slice uo 64 uc), x ∉ F ∧ W.heap.size ≤ x) := fun x hx => by
                  have e9 := ((unhide HOI).lt x (mem_blk.1 hx)).1
                  exact ⟨fun h => by have := ok2.lt _ _ _ _ (unhide HOV) x h; omega, by have := (unhide HGV).size; omega⟩
                have HG4 := hide (grown_trans (unhide HGV) (unhide HGI))
                clear HOI HOV eB HGI HGV
                go_wp2_with (at_builtin; refine append_rowR ok1 Try.underlying33 infoIntSS rfl _ _ rfl (.slice vo vn vc) (L.take c) F rfl (unhide HO4) (unhide HFN) _ B _ (unhide HU) (blk_once _) (fun x hx => (unhide HDU x hx).1) rfl (unhide HCB) _ (unhide HNX) ?_)
                intro v5 w5 F5 o5 n5 m5 g5
                obtain ⟨vo5, vc5, rfl⟩ := o5.form
                have HO5 := hide o5
                have HN5 := hide n5
                have HL5 : Hid (∀ x ∈ F5, W.heap.size ≤ x) := fun x hx => by
                  rcases m5 x hx with h | h | h
                  · exact unhide HFL x h
                  · exact (unhide HDU x h).2
                  · have := (unhide HG4).size; omega
                have G5 := hide (Wr.new (unhide HG4) g5 (fun x hx => unhide HFL x ((unhide HO4).head16 x hx)))
                clear o5 n5 m5 g5 HO4 HU HDU HFN HFL HCB HG4
                go_wp2
                go_roundw
                case rel => exact ⟨x + 1, c + 1, vo5, _, vc5, F5, by omega, rfl, by go_num, by unfold Hid; rw [← unhide HC]; omega, HO5, HN5, HL5, G5⟩
                case measure => simp [intOf]; omega
          · obtain rfl : bw = x := by omega
            have hxd : decide ((bw : Int) < (bw : Int)) = false := decide_eq_false (by omega)
            have HC' : Hid ((y + 1) * bw = c) := by unfold Hid; rw [← unhide HC, Nat.add_mul, Nat.one_mul]
            go_wp2
            go_roundw
            case rel => exact ⟨y + 1, c, _, _, _, _, by omega, rfl, by go_num, HC', HOV, HFN, HFL, HGV⟩
            case measure => simp [intOf]; omega
      · obtain rfl : bh = y := by omega
        have hyd : decide ((bh : Int) < (bh : Int)) = false := decide_eq_false (by omega)
        have HCL : Hid (c0 = L.length) := by unfold Hid; rw [unhide HLL, ← unhide HC0]
        rw [unhide HCL, List.take_length] at HOV
        go_wp2
        go_ret
        exact ⟨⟨_, _, rfl, unhide HOV, unhide HFN, unhide HFL⟩, unhide HGV⟩

end Go.Proofs.Ytkefpjbdkhifhaa

namespace Go.Proofs.Ytkefpjbdkhifhaa
open Go.RowKit

theorem rd_of_I {w : World} {ao : Option Addr} {n cap : Nat} {zs : List Int} (h : RdI .i64 w (.slice ao n cap) zs) : Rd .i64 w ao n zs := by
  obtain ⟨a', c', e, hr⟩ := h
  simp only [Value.slice.injEq] at e
  rw [e.1, e.2.1]
  exact hr
theorem sumN_same (f : List Int → Nat) (c : Nat) : ∀ (X : List (List Int)), (∀ x ∈ X, f x = c) → sumN (X.map f) = X.length * c
  | [], _ => by simp [sumN]
  | x :: X, h => by
    rw [List.map_cons, sumN, h x (by simp), sumN_same f c X (fun y hy => h y (by simp [hy])), List.length_cons, Nat.add_mul, Nat.one_mul, Nat.add_comm]
theorem cut_few (zs : List Int) (w h : Int) : szR lenI (cutG zs w h) ≤ 1048576 ∧ cntR lenI (cutG zs w h) ≤ 1048576 := by
  unfold cutG
  split
  · rename_i hc
    simp only [Bool.and_eq_true, decide_eq_true_eq] at hc
    have hp := plane_of hc.1.1
    have e64 : ∀ x ∈ cutL zs w.toNat h.toNat, lenI x = 64 := fun x hx => by
      unfold cutL at hx
      obtain ⟨j, _, rfl⟩ := List.mem_map.1 hx
      simp [lenI]
    have hs := sumN_same lenI 64 _ e64
    have hl : (cutL zs w.toNat h.toNat).length ≤ 128 * 128 := by
      have e : (cutL zs w.toNat h.toNat).length = h.toNat / 8 * (w.toNat / 8) := by simp [cutL]
      rw [e]
      exact Nat.mul_le_mul (by omega) (by omega)
    unfold szR cntR
    rw [hs]
    have h2 : (cutL zs w.toNat h.toNat).length * 64 ≤ w.toNat * h.toNat := by
      have e : (cutL zs w.toNat h.toNat).length = h.toNat / 8 * (w.toNat / 8) := by simp [cutL]
      rw [e]
      have e2 : h.toNat / 8 * (w.toNat / 8) * 64 = (w.toNat / 8 * 8) * (h.toNat / 8 * 8) := by
        have : (64 : Nat) = 8 * 8 := by decide
        rw [this]
        ac_rfl
      rw [e2]
      exact Nat.mul_le_mul (Nat.div_mul_le_self _ _) (Nat.div_mul_le_self _ _)
    have h3 : ((w.toNat * h.toNat : Nat) : Int) = w * h := by push_cast; rw [Int.toNat_of_nonneg (by omega), Int.toNat_of_nonneg (by omega)]
    omega
  · simp [szR, cntR, sumN]

end Go.Proofs.Ytkefpjbdkhifhaa

namespace Go.Proofs.Ytkefpjbdkhifhaa
open Go.RowKit

def levB (lo hi : Int) (zs : List Int) : Bool := decide (zs.length = 64) && zs.all (fun n => decide (lo ≤ n ∧ n ≤ hi))

theorem lev_all {lo hi : Int} {zs : List Int} (hz : zs.length = 64) (h : ∀ j, j < 64 → lo ≤ zs.getD j 0 ∧ zs.getD j 0 ≤ hi) : levB lo hi zs = true := by
  simp only [levB, hz, decide_true, Bool.true_and, List.all_eq_true, decide_eq_true_eq]
  intro n hn
  obtain ⟨i, hi', rfl⟩ := List.getElem_of_mem hn
  have h2 : zs.getD i 0 = zs[i] := by simp [hi']
  rw [← h2]
  exact h i (by omega)
theorem lev_at {lo hi : Int} {zs : List Int} (h : levB lo hi zs = true) : zs.length = 64 ∧ ∀ j, j < 64 → lo ≤ zs.getD j 0 ∧ zs.getD j 0 ≤ hi := by
  simp only [levB, Bool.and_eq_true, decide_eq_true_eq, List.all_eq_true] at h
  refine ⟨h.1, fun j hj => ?_⟩
  have hj' : j < zs.length := by omega
  have h2 : zs.getD j 0 = zs[j] := by simp [hj']
  rw [h2]
  exact h.2 _ (List.getElem_mem hj')

set_option maxHeartbeats 800000 in
theorem specLev (ao : Option Addr) (n cap : Nat) (zs : List Int) (lo hi : Int) (w : World) (hr : Rd .i64 w ao n zs) (b : Bool) (hb : Hid (levB lo hi zs = b)) :
    Calls Try.prog 69 #[.slice ao n cap, .int .i64 lo, .int .i64 hi] w fun e w' => e = .returned (.bool b) ∧ w.grownBy w' none := by
  by_cases h : n = 64
  · subst h
    have HR := hide hr
    have HZ := hide hr.1
    clear hr
    go_enter Try.func69, Try.ntmps69
    go_wp2
    go_loopw [7] (fun i wr => ∃ k : Nat, k ≤ 64 ∧ i = .int .i64 k ∧ (Hid (∀ j, j < k → lo ≤ zs.getD j 0 ∧ zs.getD j 0 ≤ hi)) ∧ w.grownBy wr none) (fun i _ => 64 - (intOf i).toNat)
    case atStart => exact ⟨0, Nat.zero_le _, rfl, fun j hj => absurd hj (by omega), World.grownBy.refl _ _⟩
    case round =>
      obtain ⟨k, hk, rfl, HK, hgk⟩ := hrel
      by_cases hlt : k < 64
      · obtain ⟨bb, off, rfl, hc⟩ := (unhide HR).2 k hlt
        have hcell := hgk.cell hc (by simp)
        obtain ⟨t, HT⟩ : ∃ t, Hid (decide (lo ≤ zs.getD k 0 ∧ zs.getD k 0 ≤ hi) = t) := ⟨_, rfl⟩
        clear hc
        obtain ⟨z, HX⟩ : ∃ z, Hid (zs.getD k 0 = z) := ⟨_, rfl⟩
        rw [unhide HX] at hcell HT
        go_wp2_with fail
        refine (between z lo hi t HT wr).mono ?_
        rintro e w2 ⟨rfl, rfl⟩
        cases t with
        | true =>
          go_wp2
          go_roundw
          case rel =>
            refine ⟨k + 1, by omega, by go_num, fun j hj => ?_, hgk⟩
            by_cases e : j = k
            · subst e; rw [unhide HX]; have := unhide HT; simpa using this
            · exact unhide HK j (by omega)
          case measure => simp [intOf]; omega
        | false =>
          have hf : b = false := by
            cases hbb : b with
            | false => rfl
            | true =>
              have h1 := (lev_at ((unhide hb).trans hbb)).2 k hlt
              rw [unhide HX] at h1
              have := unhide HT
              simp at this
              omega
          subst hf
          go_wp2
          go_ret
          exact ⟨rfl, hgk⟩
      · obtain rfl : k = 64 := by omega
        have ht : b = true := by rw [← unhide hb]; exact lev_all (unhide HZ) (unhide HK)
        subst ht
        go_wp2
        go_ret
        exact ⟨rfl, hgk⟩
  · have hb' : b = false := by rw [← unhide hb]; simp [levB, hr.1, h]
    subst hb'
    have hne : ((n : Int) != 64) = true := by simp; omega
    clear hr hb
    go_enter Try.func69, Try.ntmps69
    go_wp2
    go_ret
    exact ⟨rfl, World.grownBy.refl _ _⟩

end Go.Proofs.Ytkefpjbdkhifhaa

namespace Go.Proofs.Ytkefpjbdkhifhaa
open Go.RowKit

def joinG (B : List (List Int)) (w h : Int) : List Int := if sidesB w h && decide (w % 8 = 0) && decide (h % 8 = 0) && decide ((B.length : Int) = w * h / 64) && B.all (levB 0 4095) then joinL B w.toNat h.toNat else []
theorem join_sides {w h : Int} (hs : sidesB w h = true) (h1 : w % 8 = 0) (h2 : h % 8 = 0) : ∃ bw bh : Nat, w = ((8 * bw : Nat) : Int) ∧ h = ((8 * bh : Nat) : Int) ∧ (1 ≤ bw ∧ bw ≤ 128) ∧ (1 ≤ bh ∧ bh ≤ 128) ∧ w * h / 64 = ((bh * bw : Nat) : Int) := by
  obtain ⟨a1, a2, a3⟩ := sides_of hs
  refine ⟨(w / 8).toNat, (h / 8).toNat, by omega, by omega, by omega, by omega, ?_⟩
  obtain ⟨x, rfl⟩ : ∃ x, w = 8 * x := ⟨w / 8, by omega⟩
  obtain ⟨y, rfl⟩ : ∃ y, h = 8 * y := ⟨h / 8, by omega⟩
  have e : 8 * x * (8 * y) = 64 * (y * x) := by
    have : (64 : Int) = 8 * 8 := by decide
    rw [this]
    ac_rfl
  rw [e, Int.mul_ediv_cancel_left _ (by decide)]
  rw [Int.mul_ediv_cancel_left _ (by decide), Int.mul_ediv_cancel_left _ (by decide)]
  push_cast
  rw [Int.toNat_of_nonneg (by omega), Int.toNat_of_nonneg (by omega)]
theorem Rd2.at {w : World} {bb off n cap : Nat} {B : List (List Int)} (h : Rd2 w (.slice (some ⟨bb, off, none⟩) n cap) B) (i : Nat) (hi : i < B.length) : ∃ uo uc, w.cell? ⟨bb, off + i, none⟩ = some (.slice uo (B.getD i []).length uc) ∧ Rd .i64 w uo (B.getD i []).length (B.getD i []) := by
  obtain ⟨ao, cp, e, hh⟩ := h
  obtain ⟨b, o, u, e1, hc, uo, uc, rfl, hr⟩ := hh i hi
  simp only [Value.slice.injEq] at e
  rw [← e.1] at e1
  simp only [Option.some.injEq, Addr.mk.injEq, and_true] at e1
  have eB : B.getD i [] = B[i] := by simp [hi]
  rw [eB, e1.1, e1.2]
  exact ⟨uo, uc, hc, hr⟩

set_option maxRecDepth 20000 in
set_option maxHeartbeats 6400000 in
theorem specJoinBlocks (ao : Option Addr) (n cap : Nat) (B : List (List Int)) (w h : Int) (W : World) (hr : Rd2 W (.slice ao n cap) B) (hn : n ≤ 9223372036854775807) (L : List Int) (HL : Hid (joinG B w h = L)) :
    Calls Try.prog 40 #[.slice ao n cap, .int .i64 w, .int .i64 h] W fun e W' => ∃ so sc, e = .returned (.slice so L.length sc) ∧ W'.ownsRow W.heap.size 3 1 (.slice so L.length sc) L.length (L.map (Value.int .i64)) ∧ W.grownBy W' none := by
  have hnB : B.length = n := by
    obtain ⟨_, _, e, _⟩ := hr
    simp only [Value.slice.injEq] at e
    exact e.2.1.symm
  have HNB := hide hnB
  have HR := hide hr
  clear hr hnB
  have HO0 : Hid (∀ w1 : World, W.grownBy w1 none → (w1.alloc (.cells #[] 3)).ownsRow W.heap.size 3 1 (.slice (some ⟨w1.heap.size, 0, none⟩) 0 0) 0 []) := fun w1 g => own_base (World.ownsRow_lit w1 #[] 0 (Nat.le_refl _) (by unfold maxLen; omega) rfl) g.size
  obtain ⟨sb, HS⟩ : ∃ y, Hid (sidesB w h = y) := ⟨_, rfl⟩
  go_enter Try.func40, Try.ntmps40
  go_wp2_with fail
  refine (specSides w h sb HS W).mono ?_
  rintro e W ⟨rfl, rfl⟩
  have HOW := hide (unhide HO0 W (World.grownBy.refl _ _))
  cases sb with
  | false =>
    obtain rfl : L = [] := by rw [← unhide HL, joinG, unhide HS]; rfl
    go_wp2
    go_ret
    exact ⟨_, _, rfl, unhide HOW, World.grownBy_alloc _ _ _⟩
  | true =>
    obtain ⟨a1, a2, a3⟩ := sides_of (unhide HS)
    have e1 : w.tmod 8 = w % 8 := Int.tmod_eq_emod_of_nonneg (by omega)
    have e2 : h.tmod 8 = h % 8 := Int.tmod_eq_emod_of_nonneg (by omega)
    have v1 := i64_in (w % 8) (by omega)
    have v2 := i64_in (h % 8) (by omega)
    by_cases h1 : ¬ w % 8 = 0
    · obtain rfl : L = [] := by rw [← unhide HL, joinG, decide_eq_false h1]; simp
      have d1 : (w % 8 != 0) = true := by simpa using h1
      go_wp2
      go_ret
      exact ⟨_, _, rfl, unhide HOW, World.grownBy_alloc _ _ _⟩
    have h1' : w % 8 = 0 := by omega
    have d1 : (w % 8 != 0) = false := by simp [h1']
    by_cases h2 : ¬ h % 8 = 0
    · obtain rfl : L = [] := by rw [← unhide HL, joinG, decide_eq_false h2]; simp
      have d2 : (h % 8 != 0) = true := by simpa using h2
      clear h1 h1'
      go_wp2
      go_ret
      exact ⟨_, _, rfl, unhide HOW, World.grownBy_alloc _ _ _⟩
    have h2' : h % 8 = 0 := by omega
    have d2 : (h % 8 != 0) = false := by simp [h2']
    obtain ⟨bw, bh, E1, E2, b1, b2, E3⟩ := join_sides (unhide HS) h1' h2'
    obtain ⟨wN, HWN⟩ : ∃ k : Nat, Hid (8 * bw = k) := ⟨_, rfl⟩
    obtain ⟨hN, HHN⟩ : ∃ k : Nat, Hid (8 * bh = k) := ⟨_, rfl⟩
    rw [unhide HWN] at E1
    rw [unhide HHN] at E2
    subst E1
    subst E2
    have hmm := mul_sides a1 a2
    obtain ⟨p, HPR⟩ : ∃ p, Hid ((wN : Int) * (hN : Int) = p) := ⟨_, rfl⟩
    rw [unhide HPR] at a3 hmm E3
    have k1 : IntKind.i64.wrap ((wN : Int) * (hN : Int)) = p := by rw [unhide HPR, i64_in _ (by omega)]
    have k2 : p.tdiv 64 = ((bh * bw : Nat) : Int) := by rw [Int.tdiv_eq_ediv_of_nonneg (by omega)]; exact E3
    obtain ⟨nb, HNN⟩ : ∃ k : Nat, Hid (bh * bw = k) := ⟨_, rfl⟩
    have hnb : nb ≤ 16384 := by rw [← unhide HNN]; exact Nat.mul_le_mul b2.2 b1.2
    have hnb1 : 1 ≤ nb := by rw [← unhide HNN]; exact Nat.mul_le_mul b2.1 b1.1
    rw [unhide HNN] at k2 E3
    obtain ⟨qq, HQQ⟩ : ∃ x : Int, Hid ((nb : Int) = x) := ⟨_, rfl⟩
    rw [unhide HQQ] at k2
    have k3 := i64_in qq (by have := unhide HQQ; omega)
    have HE3 := hide E3
    have D1 := hide h1'
    have D2 := hide h2'
    clear h1 h2 h1' h2' E3
    by_cases hl : ¬ n = nb
    · obtain rfl : L = [] := by
        rw [← unhide HL, joinG, unhide HPR, unhide HE3, unhide HNB, decide_eq_false (by omega : ¬ (n : Int) = (nb : Int))]
        simp
      have d3 : ((n : Int) != qq) = true := by have := unhide HQQ; simp; omega
      clear hl
      go_wp2
      go_ret
      exact ⟨_, _, rfl, unhide HOW, World.grownBy_alloc _ _ _⟩
    obtain rfl : n = nb := by omega
    have d3 : ((n : Int) != qq) = false := by have := unhide HQQ; simp; omega
    have HLB : Hid (joinG B (wN : Int) (hN : Int) = if B.all (levB 0 4095) then joinL B wN hN else []) := by
      unfold Hid
      rw [joinG, unhide HS, decide_eq_true (unhide D1), decide_eq_true (unhide D2), unhide HPR, unhide HE3, unhide HNB, Int.toNat_natCast, Int.toNat_natCast, decide_eq_true (rfl : (n : Int) = (n : Int))]
      simp only [Bool.true_and]
    obtain ⟨bb, off, rfl⟩ : ∃ bb off, ao = some ⟨bb, off, none⟩ := by
      obtain ⟨ao', cp, e, hh⟩ := unhide HR
      obtain ⟨b, o, u, e1, _⟩ := hh 0 (by rw [unhide HNB]; omega)
      simp only [Value.slice.injEq] at e
      exact ⟨b, o, by rw [e.1, e1]⟩
    clear hl a1 a2 a3 hmm HPR HOW
    go_wp2
    go_loopw [7] (fun iv wr => ∃ k : Nat, k ≤ n ∧ iv = .int .i64 k ∧ Hid (∀ j, j < k → levB 0 4095 (B.getD j []) = true) ∧ Hid (W.grownBy wr none)) (fun iv _ => n - (intOf iv).toNat)
    case atStart => exact ⟨0, by omega, by go_num, fun j hj => absurd hj (by omega), World.grownBy.refl _ _⟩
    case round =>
      obtain ⟨k, hk, rfl, HK, HG⟩ := hrel
      by_cases hlt : k < n
      · have hkI : (k : Int) < (n : Int) := by omega
        have e9 := i64_in ((k : Int) + 1) (by omega)
        obtain ⟨Bk, HBK⟩ : ∃ b, Hid (B.getD k [] = b) := ⟨_, rfl⟩
        obtain ⟨uo, uc, hc, hrk⟩ := Rd2.at (unhide HR) k (by rw [unhide HNB]; exact hlt)
        rw [unhide HBK] at hc hrk
        have hcell := (unhide HG).cell hc (by simp)
        obtain ⟨t, HT⟩ : ∃ t, Hid (levB 0 4095 Bk = t) := ⟨_, rfl⟩
        obtain ⟨bl, HBL⟩ : ∃ k, Hid (Bk.length = k) := ⟨_, rfl⟩
        rw [unhide HBL] at hcell hrk
        have HRK := hide (hrk.grown (unhide HG))
        clear hc hrk
        go_wp2_with fail
        refine (specLev uo bl uc Bk 0 4095 wr (unhide HRK) t HT).mono ?_
        rintro e w2 ⟨rfl, g2⟩
        have HG2 := hide (grown_trans (unhide HG) g2)
        cases t with
        | true =>
          have HK' : Hid (∀ j, j < k + 1 → levB 0 4095 (B.getD j []) = true) := fun j hj => by
            by_cases e : j = k
            · subst e; rw [unhide HBK]; exact unhide HT
            · exact unhide HK j (by omega)
          clear g2
          go_wp2
          go_roundw
          case rel => exact ⟨k + 1, by omega, by go_num, HK', HG2⟩
          case measure => simp [intOf]; omega
        | false =>
          obtain rfl : L = [] := by
            rw [← unhide HL, unhide HLB, if_neg]
            intro e
            have hk' : k < B.length := by rw [unhide HNB]; exact hlt
            have := List.all_eq_true.1 e B[k] (List.getElem_mem hk')
            rw [show B[k] = Bk by rw [← unhide HBK]; simp [hk'], unhide HT] at this
            cases this
          have HOX := hide (unhide HO0 w2 (unhide HG2))
          clear g2
          go_wp2
          go_ret
          exact ⟨_, _, rfl, unhide HOX, grown_alloc (unhide HG2) _⟩
      · obtain rfl : n = k := by omega
        have hkd : decide ((n : Int) < (n : Int)) = false := decide_eq_false (by omega)
        have HLG : Hid (joinL B wN hN = L) := by
          unfold Hid
          rw [← unhide HL, unhide HLB, if_pos]
          rw [List.all_eq_true]
          intro x hx
          obtain ⟨i, hi, rfl⟩ := List.mem_iff_getElem.1 hx
          have := unhide HK i (by rw [← unhide HNB]; exact hi)
          rw [show B.getD i [] = B[i] by simp [hi]] at this
          exact this
        have H64 : Hid (∀ j, j < n → (B.getD j []).length = 64) := fun j hj => (lev_at (unhide HK j hj)).1
        have HLL : Hid (L.length = wN * hN) := by unfold Hid; rw [← unhide HLG]; exact gridL_len _ _ _
        have hb1 : wN ≤ 1024 ∧ hN ≤ 1024 ∧ 8 ≤ wN ∧ 8 ≤ hN := by have := unhide HWN; have := unhide HHN; omega
        have HBD : Hid (wN * hN ≤ 1000000 * 2) := by
          have : wN * hN ≤ 1024 * 1024 := Nat.mul_le_mul hb1.1 hb1.2.1
          unfold Hid; omega
        have f1 : (wN : Int).tdiv 8 = (bw : Int) := by rw [Int.tdiv_eq_ediv_of_nonneg (by omega)]; have := unhide HWN; omega
        have f3 := i64_in (bw : Int) (by omega)
        have HOV := hide (unhide HO0 wr (unhide HG))
        have HGV := hide (grown_alloc (unhide HG) (.cells #[] 3))
        have HSM : Hid (wN * hN ≤ 131072) := by
          obtain ⟨_, _, h3⟩ := sides_of (unhide HS)
          rw [← Int.natCast_mul] at h3
          unfold Hid; omega
        clear HK HG
        go_wp2
        go_loopw [8, 9] (fun ov yv wr => ∃ (y c : Nat), y ≤ hN ∧ yv = .int .i64 y ∧ Hid (y * wN = c) ∧ Hid (wr.ownsRow W.heap.size 3 1 ov c ((L.take c).map (Value.int .i64))) ∧ Hid (W.grownBy wr none)) (fun _ yv _ => hN - (intOf yv).toNat)
        case atStart => exact ⟨0, 0, by omega, by go_num, by simp [Hid], HOV, HGV⟩
        case round =>
          clear HOV HGV
          obtain ⟨y, c0, hy, rfl, HC0, HOV, HGV⟩ := hrel
          by_cases hyl : y < hN
          · have hyI : (y : Int) < (hN : Int) := by omega
            have y1 := i64_in ((y : Int) + 1) (by omega)
            go_wp2
            go_loopw [8, 10] (fun ov xv wr => ∃ (x c : Nat), x ≤ wN ∧ xv = .int .i64 x ∧ Hid (y * wN + x = c) ∧ Hid (wr.ownsRow W.heap.size 3 1 ov c ((L.take c).map (Value.int .i64))) ∧ Hid (W.grownBy wr none)) (fun _ xv _ => wN - (intOf xv).toNat)
            case atStart => exact ⟨0, c0, by omega, by go_num, HC0, HOV, HGV⟩
            case round =>
              clear HOV HGV HC0
              obtain ⟨x, c, hx, rfl, HC, HOV, HGV⟩ := hrel
              by_cases hxl : x < wN
              · have hxI : (x : Int) < (wN : Int) := by omega
                have x1 := i64_in ((x : Int) + 1) (by omega)
                have hcl : c < wN * hN := by
                  rw [← unhide HC]
                  have := row_end (w := wN) hyl
                  rw [Nat.mul_comm wN hN]
                  omega
                have hcb : c + 1 ≤ 1000000 := by have := unhide HSM; omega
                obtain ⟨yd, HYD⟩ : ∃ k : Nat, Hid (y / 8 = k) := ⟨_, rfl⟩
                obtain ⟨ym, HYM⟩ : ∃ k : Nat, Hid (y % 8 = k) := ⟨_, rfl⟩
                obtain ⟨xd, HXD⟩ : ∃ k : Nat, Hid (x / 8 = k) := ⟨_, rfl⟩
                obtain ⟨xm, HXM⟩ : ∃ k : Nat, Hid (x % 8 = k) := ⟨_, rfl⟩
                have q1 : (y : Int).tdiv 8 = (yd : Int) := by rw [Int.tdiv_eq_ediv_of_nonneg (by omega)]; have := unhide HYD; omega
                have q2 : (y : Int).tmod 8 = (ym : Int) := by rw [Int.tmod_eq_emod_of_nonneg (by omega)]; have := unhide HYM; omega
                have q3 : (x : Int).tdiv 8 = (xd : Int) := by rw [Int.tdiv_eq_ediv_of_nonneg (by omega)]; have := unhide HXD; omega
                have q4 : (x : Int).tmod 8 = (xm : Int) := by rw [Int.tmod_eq_emod_of_nonneg (by omega)]; have := unhide HXM; omega
                have l1 : yd < bh := by have := unhide HYD; have := unhide HHN; omega
                have l2 : ym < 8 := by have := unhide HYM; omega
                have l3 : xd < bw := by have := unhide HXD; have := unhide HWN; omega
                have l4 : xm < 8 := by have := unhide HXM; omega
                have u1 := i64_in (yd : Int) (by omega)
                have u2 := i64_in (ym : Int) (by omega)
                have u3 := i64_in (xd : Int) (by omega)
                have u4 := i64_in (xm : Int) (by omega)
                obtain ⟨m1, HM1⟩ : ∃ k : Nat, Hid (yd * bw = k) := ⟨_, rfl⟩
                have hre := row_end (w := bw) l1
                rw [unhide HM1, unhide HNN] at hre
                have q5 : IntKind.i64.wrap ((yd : Int) * (bw : Int)) = (m1 : Int) := by
                  have e : (yd : Int) * (bw : Int) = (m1 : Int) := by have := unhide HM1; exact_mod_cast this
                  rw [e, i64_in _ (by omega)]
                obtain ⟨bi, HBI⟩ : ∃ k : Nat, Hid (m1 + xd = k) := ⟨_, rfl⟩
                have q6 : IntKind.i64.wrap ((m1 : Int) + (xd : Int)) = (bi : Int) := by
                  have := unhide HBI
                  rw [i64_in _ (by omega)]
                  omega
                have hbi : bi < n := by have := unhide HBI; omega
                have hbiI : (bi : Int) < (n : Int) := by omega
                have q7 := i64_in ((ym : Int) * 8) (by omega)
                obtain ⟨ii, HII⟩ : ∃ k : Nat, Hid (ym * 8 + xm = k) := ⟨_, rfl⟩
                have q8 : IntKind.i64.wrap ((ym : Int) * 8 + (xm : Int)) = (ii : Int) := by
                  have := unhide HII
                  rw [i64_in _ (by omega)]
                  omega
                have hii : ii < 64 := by have := unhide HII; omega
                obtain ⟨Bk, HBK⟩ : ∃ b, Hid (B.getD bi [] = b) := ⟨_, rfl⟩
                obtain ⟨uo, uc, hc, hrk⟩ := Rd2.at (unhide HR) bi (by rw [unhide HNB]; exact hbi)
                rw [unhide H64 bi hbi, unhide HBK] at hrk
                rw [unhide H64 bi hbi] at hc
                have hcell := (unhide HGV).cell hc (by simp)
                obtain ⟨b2', o2', rfl, hc2⟩ := hrk.2 ii hii
                have hcell2 := (unhide HGV).cell hc2 (by simp)
                obtain ⟨z, HZ⟩ : ∃ z, Hid (Bk.getD ii 0 = z) := ⟨_, rfl⟩
                rw [unhide HZ] at hcell2
                have hiiI : (ii : Int) < 64 := by omega
                have HNX : Hid (L.take c ++ [z] = L.take (c + 1)) := by
                  unfold Hid
                  rw [← unhide HLG]
                  have h1 : c / wN = y := by rw [← unhide HC, Nat.add_comm, Nat.add_mul_div_right _ _ (by omega), Nat.div_eq_of_lt hxl, Nat.zero_add]
                  have h2 : c % wN = x := by rw [← unhide HC, Nat.add_comm, Nat.add_mul_mod_self_right, Nat.mod_eq_of_lt hxl]
                  have h3 : wN / 8 = bw := by have := unhide HWN; omega
                  unfold joinL
                  rw [gridL_take _ _ _ c hcl, h1, h2, h3, unhide HYD, unhide HYM, unhide HXD, unhide HXM, unhide HM1, unhide HBI, unhide HII, unhide HBK, unhide HZ]
                clear hc hc2 hcl hre hrk
                go_wp2_with ((at_builtin; refine append_i16 rfl _ _ rfl W _ c (L.take c) rfl (unhide HOV) z rfl hcb (unhide HGV) ?_; intro v' w' ho hg))
                have HO' := hide ho
                rw [unhide HNX] at HO'
                have HG' := hide hg
                clear ho hg
                go_roundw
                case rel => exact ⟨x + 1, c + 1, by omega, by go_num, by unfold Hid; rw [← unhide HC]; omega, HO', HG'⟩
                case measure => simp [intOf]; omega
              · obtain rfl : wN = x := by omega
                have hxd : decide ((wN : Int) < (wN : Int)) = false := decide_eq_false (by omega)
                have HC' : Hid ((y + 1) * wN = c) := by unfold Hid; rw [← unhide HC, Nat.add_mul, Nat.one_mul]
                go_wp2
                go_roundw
                case rel => exact ⟨y + 1, c, by omega, by go_num, HC', HOV, HGV⟩
                case measure => simp [intOf]; omega
          · obtain rfl : hN = y := by omega
            have hyd : decide ((hN : Int) < (hN : Int)) = false := decide_eq_false (by omega)
            have HCL : Hid (c0 = L.length) := by unfold Hid; rw [unhide HLL, ← unhide HC0, Nat.mul_comm]
            rw [unhide HCL, List.take_length] at HOV
            obtain ⟨so, sc, rfl⟩ := own_form (unhide HOV)
            go_wp2
            go_ret
            exact ⟨_, _, rfl, unhide HOV, unhide HGV⟩

end Go.Proofs.Ytkefpjbdkhifhaa

namespace Go.Proofs.Ytkefpjbdkhifhaa
open Go.RowKit

theorem plane_up {L : List Int} {w h : Int} (hs : sidesB w h = true) (hl : (L.length : Int) = w * h) (hv : ∀ x ∈ L, 0 ≤ x ∧ x ≤ 4095) : planeB L w h = true := by
  unfold planeB
  rw [hs, decide_eq_true hl]
  simpa using hv
theorem grid_in {w h : Nat} {f : Nat → Nat → Int} {lo hi : Int} (hf : ∀ y x, y < h → x < w → lo ≤ f y x ∧ f y x ≤ hi) : ∀ v ∈ gridL w h f, lo ≤ v ∧ v ≤ hi := by
  intro v hv
  unfold gridL at hv
  obtain ⟨i, hi', rfl⟩ := List.mem_map.1 hv
  have hi2 : i < w * h := List.mem_range.1 hi'
  have hw : 0 < w := Nat.pos_of_ne_zero (fun e => by subst e; simp at hi2)
  exact hf _ _ (Nat.div_lt_of_lt_mul hi2) (Nat.mod_lt _ hw)
theorem tone_at {L : List Int} (h0 : ∀ x ∈ L, 0 ≤ x ∧ x ≤ 4095) (i : Nat) : 0 ≤ L.getD i 0 ∧ L.getD i 0 ≤ 4095 := by
  by_cases hi : i < L.length
  · have e : L.getD i 0 = L[i] := by simp [hi]
    rw [e]
    exact h0 _ (List.getElem_mem hi)
  · have e : L.getD i 0 = 0 := by rw [List.getD_eq_getElem?_getD, List.getElem?_eq_none (by omega)]; rfl
    rw [e]
    omega

/-- What was made smaller lies between what it comes from. -/
theorem shrinkG_in {L : List Int} {w h nw nh lo hi : Int} (hb : ∀ v ∈ L, lo ≤ v ∧ v ≤ hi) : ∀ v ∈ shrinkG L w h nw nh, lo ≤ v ∧ v ≤ hi := by
  unfold shrinkG
  split
  · rename_i hc
    simp only [Bool.and_eq_true, decide_eq_true_eq] at hc
    obtain ⟨p1, p2, p3, p4, p5⟩ := plane_of hc.1.1
    obtain ⟨wN, rfl⟩ : ∃ k : Nat, w = (k : Int) := ⟨w.toNat, by omega⟩
    obtain ⟨hN, rfl⟩ : ∃ k : Nat, h = (k : Int) := ⟨h.toNat, by omega⟩
    simp only [Int.toNat_natCast]
    exact grid_in (fun y x hy hx => shrink_in (by exact_mod_cast p3) (by omega) (by omega) hb hy hx)
  · intro v hv; simp at hv

theorem means_back {L : List Int} {wN hN a b : Nat} (ha : 1 ≤ a) (hb : 1 ≤ b) (hne : ¬ growG L (wN : Int) (hN : Int) ((a * wN : Nat) : Int) ((b * hN : Nat) : Int) = []) : shrinkG (growG L (wN : Int) (hN : Int) ((a * wN : Nat) : Int) ((b * hN : Nat) : Int)) ((a * wN : Nat) : Int) ((b * hN : Nat) : Int) (wN : Int) (hN : Int) = L := by
  unfold growG at hne ⊢
  split at hne
  · rename_i hc
    rw [if_pos hc]
    simp only [Bool.and_eq_true, decide_eq_true_eq] at hc
    obtain ⟨⟨⟨hp, hs⟩, h1⟩, h2⟩ := hc
    obtain ⟨p1, p2, p3, p4, p5⟩ := plane_of hp
    simp only [Int.toNat_natCast]
    have hl : L.length = wN * hN := by exact_mod_cast p3
    have hpl : planeB (growL L wN hN (a * wN) (b * hN)) ((a * wN : Nat) : Int) ((b * hN : Nat) : Int) = true := by
      refine plane_up hs ?_ (grid_in (fun y x _ _ => tone_at p5 _))
      rw [growL, gridL_len]
      push_cast
      rfl
    unfold shrinkG
    rw [hpl, decide_eq_true (by omega : (1 : Int) ≤ (wN : Int) ∧ (wN : Int) ≤ ((a * wN : Nat) : Int)), decide_eq_true (by omega : (1 : Int) ≤ (hN : Int) ∧ (hN : Int) ≤ ((b * hN : Nat) : Int))]
    simp only [Bool.and_self, if_true, Int.toNat_natCast]
    exact grow_back hl (by omega) (by omega) ha hb
  · exact absurd rfl hne

theorem pads_back {L : List Int} {w h nw nh : Int} (hne : ¬ padG L w h nw nh = []) : cropG (padG L w h nw nh) nw nh w h = L := by
  unfold padG at hne ⊢
  split at hne
  · rename_i hc
    rw [if_pos hc]
    simp only [Bool.and_eq_true, decide_eq_true_eq] at hc
    obtain ⟨⟨⟨hp, hs⟩, h1⟩, h2⟩ := hc
    obtain ⟨p1, p2, p3, p4, p5⟩ := plane_of hp
    obtain ⟨s1, s2, s3⟩ := sides_of hs
    obtain ⟨wN, rfl⟩ : ∃ k : Nat, w = (k : Int) := ⟨w.toNat, by omega⟩
    obtain ⟨hN, rfl⟩ : ∃ k : Nat, h = (k : Int) := ⟨h.toNat, by omega⟩
    obtain ⟨nwN, rfl⟩ : ∃ k : Nat, nw = (k : Int) := ⟨nw.toNat, by omega⟩
    obtain ⟨nhN, rfl⟩ : ∃ k : Nat, nh = (k : Int) := ⟨nh.toNat, by omega⟩
    simp only [Int.toNat_natCast]
    have hl : L.length = wN * hN := by exact_mod_cast p3
    have hpl : planeB (padL L wN hN nwN nhN) (nwN : Int) (nhN : Int) = true := by
      refine plane_up hs ?_ (grid_in (fun y x _ _ => tone_at p5 _))
      rw [padL, gridL_len]
      push_cast
      rfl
    unfold cropG
    rw [hpl, decide_eq_true (by omega : (1 : Int) ≤ (wN : Int) ∧ (wN : Int) ≤ (nwN : Int)), decide_eq_true (by omega : (1 : Int) ≤ (hN : Int) ∧ (hN : Int) ≤ (nhN : Int))]
    simp only [Bool.and_self, if_true, Int.toNat_natCast]
    exact pad_back hl (by omega) (by omega)
  · exact absurd rfl hne

theorem cuts_back {L : List Int} {w h : Int} (hne : ¬ cutG L w h = []) : joinG (cutG L w h) w h = L := by
  unfold cutG at hne ⊢
  split at hne
  · rename_i hc
    rw [if_pos hc]
    simp only [Bool.and_eq_true, decide_eq_true_eq] at hc
    obtain ⟨⟨hp, h1⟩, h2⟩ := hc
    obtain ⟨p1, p2, p3, p4, p5⟩ := plane_of hp
    have hs : sidesB w h = true := by
      unfold planeB at hp
      simp only [Bool.and_eq_true] at hp
      exact hp.1.1
    obtain ⟨bw, bh, E1, E2, b1, b2, E3⟩ := join_sides hs h1 h2
    have hlen : ((cutL L w.toNat h.toNat).length : Int) = w * h / 64 := by
      have e : (cutL L w.toNat h.toNat).length = h.toNat / 8 * (w.toNat / 8) := by simp [cutL]
      rw [e, E3, E1, E2, Int.toNat_natCast, Int.toNat_natCast, Nat.mul_div_cancel_left _ (by decide), Nat.mul_div_cancel_left _ (by decide)]
    have hall : (cutL L w.toNat h.toNat).all (levB 0 4095) = true := by
      rw [List.all_eq_true]
      intro x hx
      unfold cutL at hx
      obtain ⟨j, _, rfl⟩ := List.mem_map.1 hx
      refine lev_all (by simp) (fun i hi => ?_)
      have := tone_at p5 ((8 * (j / (w.toNat / 8)) + i / 8) * w.toNat + 8 * (j % (w.toNat / 8)) + i % 8)
      simpa [hi] using this
    unfold joinG
    rw [hs, decide_eq_true h1, decide_eq_true h2, decide_eq_true hlen, hall]
    simp only [Bool.and_self, if_true]
    refine cut_back ?_ (by omega) (by omega)
    have h3 : ((w.toNat * h.toNat : Nat) : Int) = w * h := by push_cast; rw [Int.toNat_of_nonneg (by omega), Int.toNat_of_nonneg (by omega)]
    omega
  · exact absurd rfl hne

end Go.Proofs.Ytkefpjbdkhifhaa

namespace Go.Proofs.Ytkefpjbdkhifhaa
open Go.RowKit

/-- Copying elements of so many cells each, into a row that is known whole. -/
theorem run_copyI {P : Program} (w : World) (dT sT ty elem : TypeId) (sz : Nat) (g off dLen dCap : Nat) (ad : Addr) (sLen sCap : Nat) (cur : Array Value) (t : TypeId) (cs : List Value)
    (hu : P.underlying dT = some (.slice elem)) (hs : (P.info? elem).map (·.size) = some sz) (hg : w.heap[g]? = some (.cells cur t (0, 0))) (hn : cs.length = Nat.min sLen dLen * sz)
    (hsrc : ∀ j v, cs[j]? = some v → w.cell? (ad.add j) = some v) (hfit : off + cs.length ≤ cur.size) (h1 : ∀ v ∈ cs, v.oneCell' = true) :
    (Builtin.copy_ #[dT, sT] ty #[.slice (some ⟨g, off, none⟩) dLen dCap, .slice (some ad) sLen sCap]).run P w = .ok (goInt (Nat.min sLen dLen)) (w.setRow g (cur.toList.take off ++ cs ++ cur.toList.drop (off + cs.length)).toArray) := by
  have hst := run_storeCells_at P g off t cs 0 cur w hg (by simpa using hfit) h1
  cases hq : P.info? elem with
  | none => simp [hq] at hs
  | some i =>
    have hi : i.size = sz := by simpa [hq] using hs
    have hl := run_loadCells_list (P := P) w ad cs hsrc
    simp [Builtin.copy_, run_underlying hu, Builtin.lenOf, Builtin.firstCells, sizeOf, typeInfo, hq, hi, ← hn, hl, hst]

theorem grown_setRowI (w : World) (g : Nat) (X : Array Value) : w.grownBy (w.setRow g X) (some g) :=
  ⟨rfl, rfl, rfl, by simp [World.setRow], fun k _ hk => setRow_other w g k X (fun e => hk (by simp [e]))⟩

theorem wp_copyI {P : Program} {o : Oper} {a : Act} {w : World} {K : Act → World → Prop} {Q : Exit → Act → World → Prop} (d s : Operand) (dT sT : TypeId)
    (ho : o.op = .call { callee := .builtin .copy, args := #[d, s], argTypes := #[dT, sT] }) (elem : TypeId) (hu : P.underlying dT = some (.slice elem)) (sz : Nat) (hsz : (P.info? elem).map (·.size) = some sz)
    (g off dLen dCap : Nat) (ad : Addr) (sLen sCap : Nat) (hd : a.eval d = .slice (some ⟨g, off, none⟩) dLen dCap) (hs : a.eval s = .slice (some ad) sLen sCap)
    (cur : Array Value) (t : TypeId) (hg : w.heap[g]? = some (.cells cur t (0, 0))) (m : Nat) (hm : Nat.min sLen dLen = m) (cs : List Value) (hn : cs.length = m * sz)
    (hsrc : ∀ j v, cs[j]? = some v → w.cell? (ad.add j) = some v) (hfit : off + cs.length ≤ cur.size) (h1 : ∀ v ∈ cs, v.oneCell' = true) (R : List Value) (hR : cur.toList.take off ++ cs ++ cur.toList.drop (off + cs.length) = R)
    (h : ∀ w', Hid (w'.heap[g]? = some (.cells R.toArray t (0, 0))) → w.grownBy w' (some g) → K (a.put o.dst (.int .i64 m)) w') : Oper.wp P o a w K Q := by
  subst hm
  have hrun := run_copyI (P := P) w dT sT o.type elem sz g off dLen dCap ad sLen sCap cur t cs hu hsz hg hn hsrc hfit h1
  rw [hR] at hrun
  unfold Oper.wp
  simp only [execOp, ho, resolve, invoke, builtin, Sem.run_bind, Sem.run_pure, Result.andThen_ok, List.map_toArray, List.map_cons, List.map_nil, hd, hs, hrun]
  exact h _ (setRow_heap w g _ _ t _ hg) (grown_setRowI w g _)

theorem wpList_copyI {P : Program} {ops : Array Oper} {rest : List Oper} {o : Oper} {a : Act} {w : World} {Q : Exit → Act → World → Prop} (hgd : o.guard = none) (d s : Operand) (dT sT : TypeId)
    (ho : o.op = .call { callee := .builtin .copy, args := #[d, s], argTypes := #[dT, sT] }) (elem : TypeId) (hu : P.underlying dT = some (.slice elem)) (sz : Nat) (hsz : (P.info? elem).map (·.size) = some sz)
    (g off dLen dCap : Nat) (ad : Addr) (sLen sCap : Nat) (hd : a.eval d = .slice (some ⟨g, off, none⟩) dLen dCap) (hs : a.eval s = .slice (some ad) sLen sCap)
    (cur : Array Value) (t : TypeId) (hg : w.heap[g]? = some (.cells cur t (0, 0))) (m : Nat) (hm : Nat.min sLen dLen = m) (cs : List Value) (hn : cs.length = m * sz)
    (hsrc : ∀ j v, cs[j]? = some v → w.cell? (ad.add j) = some v) (hfit : off + cs.length ≤ cur.size) (h1 : ∀ v ∈ cs, v.oneCell' = true) (R : List Value) (hR : cur.toList.take off ++ cs ++ cur.toList.drop (off + cs.length) = R)
    (h : ∀ w', Hid (w'.heap[g]? = some (.cells R.toArray t (0, 0))) → w.grownBy w' (some g) → wpList P ops Q rest (a.put o.dst (.int .i64 m)) w') : wpList P ops Q (o :: rest) a w :=
  wpList_plain hgd fun _ hK => wp_copyI d s dT sT ho elem hu sz hsz g off dLen dCap ad sLen sCap hd hs cur t hg m hm cs hn hsrc hfit h1 R hR (fun w' h1 h2 => hK _ _ (h w' h1 h2))

theorem step_copyI {P : Program} {ops : Array Oper} {o : Oper} {a : Act} {w : World} {K : Act → World → Prop} {Q : Exit → Act → World → Prop} {E : Prop} (hgd : o.guard = none) (d s : Operand) (dT sT : TypeId)
    (ho : o.op = .call { callee := .builtin .copy, args := #[d, s], argTypes := #[dT, sT] }) (elem : TypeId) (hu : P.underlying dT = some (.slice elem)) (sz : Nat) (hsz : (P.info? elem).map (·.size) = some sz)
    (g off dLen dCap : Nat) (ad : Addr) (sLen sCap : Nat) (hd : a.eval d = .slice (some ⟨g, off, none⟩) dLen dCap) (hs : a.eval s = .slice (some ad) sLen sCap)
    (cur : Array Value) (t : TypeId) (hg : w.heap[g]? = some (.cells cur t (0, 0))) (m : Nat) (hm : Nat.min sLen dLen = m) (cs : List Value) (hn : cs.length = m * sz)
    (hsrc : ∀ j v, cs[j]? = some v → w.cell? (ad.add j) = some v) (hfit : off + cs.length ≤ cur.size) (h1 : ∀ v ∈ cs, v.oneCell' = true) (R : List Value) (hR : cur.toList.take off ++ cs ++ cur.toList.drop (off + cs.length) = R)
    (h : ∀ w', Hid (w'.heap[g]? = some (.cells R.toArray t (0, 0))) → w.grownBy w' (some g) → K (a.put o.dst (.int .i64 m)) w') :
    if Region.wanted o (yielded ops a.tmps) = true then Oper.wp P o a w K Q else E := by
  have hw : Region.wanted o (yielded ops a.tmps) = true := by simp [Region.wanted, hgd]
  rw [if_pos hw]
  exact wp_copyI d s dT sT ho elem hu sz hsz g off dLen dCap ad sLen sCap hd hs cur t hg m hm cs hn hsrc hfit h1 R hR h

theorem grown_atI {w w' : World} {g : Nat} {o : Obj} (h : w.grownBy w' none) (hg : w.heap[g]? = some o) : w'.heap[g]? = some o :=
  (h.block g (Array.getElem?_eq_some_iff.1 hg).1 (by simp)).trans hg

theorem own_full {w : World} {base : Nat} {e : TypeId} {g k sz : Nat} {xs : List Value} (h : w.ownsRow base e sz (.slice (some ⟨g, 0, none⟩) k k) k xs) : w.heap[g]? = some (.cells xs.toArray e (0, 0)) ∧ base ≤ g := by
  rcases h.2 with ⟨h1, _⟩ | ⟨g', cap, cur, h1, h2, h3, h4, h5, h6, h7⟩
  · simp at h1
  · simp only [Value.slice.injEq, Option.some.injEq, Addr.mk.injEq, true_and, and_true] at h1
    obtain ⟨rfl, rfl⟩ := h1
    rw [List.take_of_length_le (by simp; omega)] at h7
    refine ⟨?_, h2⟩
    rw [h3, ← h7]
theorem full_own {w : World} {base : Nat} {e : TypeId} {g k sz : Nat} {xs : List Value} (h : w.heap[g]? = some (.cells xs.toArray e (0, 0))) (hb : base ≤ g) (hl : xs.length = k * sz) (hk : k ≤ maxLen) : w.ownsRow base e sz (.slice (some ⟨g, 0, none⟩) k k) k xs :=
  ⟨hl, .inr ⟨g, k, xs.toArray, rfl, hb, h, Nat.le_refl _, hk, by simpa using hl, by rw [← hl]; simp⟩⟩

end Go.Proofs.Ytkefpjbdkhifhaa

namespace Go.Proofs.Ytkefpjbdkhifhaa
open Go.RowKit

/-- A block of numbers, whole. -/
def Blk (K : IntKind) (t : TypeId) (w : World) (g : Nat) (L : List Int) : Prop := w.heap[g]? = some (.cells (L.map (Value.int K)).toArray t (0, 0))
section
variable {K : IntKind} {t : TypeId} {w w' : World} {g : Nat} {L : List Int}
theorem Blk.lt (h : Blk K t w g L) : g < w.heap.size := (Array.getElem?_eq_some_iff.1 h).1
theorem Blk.cell (h : Blk K t w g L) (i : Nat) (hi : i < L.length) : w.cell? ⟨g, i, none⟩ = some (.int K (L.getD i 0)) := by
  rw [cell_of_row w g i _ t (0, 0) h]
  simp [hi]
theorem Blk.frozen (h : Blk K t w g L) (i : Nat) : w.frozen? ⟨g, i, none⟩ = false := frozen_of_row w g i _ t h
theorem Blk.same (h : Blk K t w g L) (e : w'.heap[g]? = w.heap[g]?) : Blk K t w' g L := e.trans h
theorem Blk.grown (h : Blk K t w g L) (hg : w.grownBy w' none) : Blk K t w' g L := h.same (hg.block g h.lt (by simp))
theorem Blk.beside {row : Option Nat} (h : Blk K t w g L) (hg : w.grownBy w' row) (hn : some g ≠ row) : Blk K t w' g L := h.same (hg.block g h.lt hn)
theorem Blk.rd (h : Blk K t w g L) (a c : Nat) (hl : a + c ≤ L.length) : Rd K w (some ⟨g, a, none⟩) c ((L.drop a).take c) := by
  refine ⟨by simp; omega, fun i hi => ⟨g, a, rfl, ?_⟩⟩
  rw [h.cell (a + i) (by omega)]
  simp [List.getElem?_take_of_lt hi]
theorem Blk.rd0 (h : Blk K t w g L) : Rd K w (some ⟨g, 0, none⟩) L.length L := by
  have := h.rd 0 L.length (by omega)
  simpa using this
theorem Blk.set (h : Blk K t w g L) (i : Nat) (z : Int) : Blk K t (w.setCell ⟨g, i, none⟩ (.int K z)) g (L.set i z) := by
  have hs : (w.setCell ⟨g, i, none⟩ (.int K z)).heap[g]? = some (.cells ((L.map (Value.int K)).toArray.setIfInBounds i (.int K z)) t (0, 0)) := by
    unfold Blk at h
    simp [World.setCell, Array.getElem?_modify, h]
  unfold Blk
  rw [hs, List.map_set]
  simp
/-- What is made anew. -/
theorem Blk.made {base n : Nat} (h : w.ownsRow base t 1 (.slice (some ⟨g, 0, none⟩) n n) n (madeCells (Value.int K 0).cells (n * 1)).toList) : Blk K t w g (List.replicate n 0) := by
  have h1 := (own_full h).1
  unfold Blk
  rw [h1]
  have e : madeCells (Value.int K 0).cells (n * 1) = ((List.replicate n (0 : Int)).map (Value.int K)).toArray := by
    refine Array.ext (by simp [madeCells]) (fun i h1 h2 => ?_)
    simp [madeCells, Value.cells, Nat.mod_one]
  rw [e]
theorem Blk.own {base : Nat} (h : Blk K t w g L) (hb : base ≤ g) (hl : L.length ≤ maxLen) : w.ownsRow base t 1 (.slice (some ⟨g, 0, none⟩) L.length L.length) L.length (L.map (Value.int K)) :=
  full_own h hb (by simp) hl
end

end Go.Proofs.Ytkefpjbdkhifhaa

namespace Go.Proofs.Ytkefpjbdkhifhaa
open Go.RowKit

def compB (c : Nat → Int) : Bool := decide (0 ≤ c 0 ∧ c 0 ≤ 255) && (decide (1 ≤ c 1 ∧ c 1 ≤ 4) && (decide (1 ≤ c 2 ∧ c 2 ≤ 4) && decide (0 ≤ c 3 ∧ c 3 ≤ 3)))
/-- Whether one of the first m components has the Id of component k. -/
def idIn (C : Nat → Nat → Int) (k : Nat) : Nat → Bool
  | 0 => false
  | m + 1 => idIn C k m || (C m 0 == C k 0)
def okTo (C : Nat → Nat → Int) : Nat → Bool
  | 0 => true
  | k + 1 => okTo C k && (compB (C k) && !idIn C k k)
def sumHV (C : Nat → Nat → Int) : Nat → Int
  | 0 => 0
  | k + 1 => sumHV C k + C k 1 * C k 2
def headB (p wd ht rs : Int) : Bool := (p == 8 || p == 12) && (decide (1 ≤ wd ∧ wd ≤ 256) && (decide (1 ≤ ht ∧ ht ≤ 256) && (decide (wd * ht ≤ 16384) && decide (0 ≤ rs ∧ rs ≤ 255))))
def compsB (n : Nat) (C : Nat → Nat → Int) : Bool := decide (1 ≤ (n : Int) ∧ (n : Int) ≤ 4) && (okTo C n && decide (sumHV C n ≤ 10))
def frameB (p wd ht rs : Int) (n : Nat) (C : Nat → Nat → Int) : Bool := headB p wd ht rs && compsB n C

theorem okTo_false {C : Nat → Nat → Int} {k : Nat} (h : okTo C k = false) : ∀ n, k ≤ n → okTo C n = false := by
  intro n hn
  induction n with
  | zero => obtain rfl : k = 0 := by omega
            exact h
  | succ n ih =>
    by_cases e : k = n + 1
    · subst e; exact h
    · simp [okTo, ih (by omega)]
theorem okTo_true {C : Nat → Nat → Int} {n : Nat} (h : okTo C n = true) : ∀ k, k ≤ n → okTo C k = true := by
  intro k hk
  cases hc : okTo C k with
  | true => rfl
  | false => rw [okTo_false hc n hk] at h; exact h
theorem compB_bounds {c : Nat → Int} (h : compB c = true) : (0 ≤ c 0 ∧ c 0 ≤ 255) ∧ (1 ≤ c 1 ∧ c 1 ≤ 4) ∧ (1 ≤ c 2 ∧ c 2 ≤ 4) ∧ 0 ≤ c 3 ∧ c 3 ≤ 3 := by
  simpa [compB] using h
theorem mul_small {a b : Int} (ha : 1 ≤ a ∧ a ≤ 4) (hb : 1 ≤ b ∧ b ≤ 4) : 1 ≤ a * b ∧ a * b ≤ 16 := by
  obtain ⟨a0, a1⟩ := ha
  have : a = 1 ∨ a = 2 ∨ a = 3 ∨ a = 4 := by omega
  rcases this with rfl | rfl | rfl | rfl <;> omega
theorem mul_side {a b : Int} (ha : 1 ≤ a ∧ a ≤ 256) (hb : 1 ≤ b ∧ b ≤ 256) : 1 ≤ a * b ∧ a * b ≤ 65536 := by
  obtain ⟨a0, a1⟩ := ha
  obtain ⟨b0, b1⟩ := hb
  have h1 : 1 * 1 ≤ a * b := Int.mul_le_mul a0 b0 (by omega) (by omega)
  have h2 : a * b ≤ 256 * 256 := Int.mul_le_mul a1 b1 (by omega) (by omega)
  omega
theorem sumHV_bounds {C : Nat → Nat → Int} : ∀ k, okTo C k = true → 0 ≤ sumHV C k ∧ sumHV C k ≤ 16 * k
  | 0, _ => by simp [sumHV]
  | k + 1, h => by
    simp only [okTo, Bool.and_eq_true] at h
    have ih := sumHV_bounds k h.1
    obtain ⟨_, h1, h2, _⟩ := compB_bounds h.2.1
    have := mul_small h1 h2
    simp only [sumHV]
    omega
theorem idIn_congr {C D : Nat → Nat → Int} {k : Nat} (hk : C k = D k) : ∀ m, (∀ i, i < m → C i = D i) → idIn C k m = idIn D k m
  | 0, _ => rfl
  | m + 1, h => by simp only [idIn]; rw [idIn_congr hk m (fun i hi => h i (by omega)), h m (by omega), hk]
theorem okTo_congr {C D : Nat → Nat → Int} : ∀ k, (∀ i, i < k → C i = D i) → okTo C k = okTo D k
  | 0, _ => rfl
  | k + 1, h => by
    simp only [okTo]
    rw [okTo_congr k (fun i hi => h i (by omega)), h k (by omega), idIn_congr (h k (by omega)) k (fun i hi => h i (by omega))]
theorem sumHV_congr {C D : Nat → Nat → Int} : ∀ k, (∀ i, i < k → C i = D i) → sumHV C k = sumHV D k
  | 0, _ => rfl
  | k + 1, h => by simp only [sumHV]; rw [sumHV_congr k (fun i hi => h i (by omega)), h k (by omega)]
theorem compsB_congr {C D : Nat → Nat → Int} {n : Nat} (h : n ≤ 4 → ∀ i, i < n → C i = D i) : compsB n C = compsB n D := by
  by_cases hn : n ≤ 4
  · simp only [compsB]; rw [okTo_congr n (h hn), sumHV_congr n (h hn)]
  · have e : decide (1 ≤ (n : Int) ∧ (n : Int) ≤ 4) = false := by simp; omega
    simp only [compsB, e, Bool.false_and]
theorem idIn_true {C : Nat → Nat → Int} {k m : Nat} (h : (C m 0 == C k 0) = true) : ∀ n, m < n → idIn C k n = true := by
  intro n hn
  induction n with
  | zero => omega
  | succ n ih =>
    by_cases e : m = n
    · subst e; simp only [idIn, h, Bool.or_true]
    · simp only [idIn, ih (by omega), Bool.true_or]
theorem headB_facts {p wd ht rs : Int} (h : headB p wd ht rs = true) : (p = 8 ∨ p = 12) ∧ (1 ≤ wd ∧ wd ≤ 256) ∧ (1 ≤ ht ∧ ht ≤ 256) ∧ wd * ht ≤ 16384 ∧ 0 ≤ rs ∧ rs ≤ 255 := by
  simpa [headB] using h

end Go.Proofs.Ytkefpjbdkhifhaa

namespace Go.Proofs.Ytkefpjbdkhifhaa
open Go.RowKit

theorem wpList_load_row {P : Program} {ops : Array Oper} {rest : List Oper} {op : Oper} {a : Act} {w : World} {Q : Exit → Act → World → Prop} (hw : Region.wanted op (yielded ops a.tmps) = true) (ty : TypeId) (x : Operand) (ho : op.op = .load ty x)
    (b : Nat) (hx : a.eval x = .pointer (some ⟨b, 0, none⟩)) (X : Array Value) (t : TypeId) (hb : w.heap[b]? = some (.cells X t (0, 0))) (d : TypeDesc)
    (hu : P.underlying ty = some d) (hd : d.isRow = true) (hi : (P.info? ty).map (·.size) = some X.size)
    (h : wpList P ops Q rest (a.put op.dst (.agg X)) w) : wpList P ops Q (op :: rest) a w :=
  BigFrame.wpList_want hw fun _ hK => wp_load_mid ty x ho b 0 hx X.toList d (fun j v hv => by rw [cell_of_row w b (0 + j) X t (0, 0) hb]; simpa using hv) hu hd (by simpa using hi) (hK _ _ (by simpa using h))

/-- The cells of a frame with its components inside. -/
structure Fx (X : Array Value) (p wd ht rs n : Int) (C : Nat → Nat → Int) : Prop where
  size : X.size = 21
  c0 : X[0]? = some (.int .i64 p)
  c1 : X[1]? = some (.int .i64 wd)
  c2 : X[2]? = some (.int .i64 ht)
  c3 : X[3]? = some (.int .i64 rs)
  c4 : X[4]? = some (.int .i64 n)
  comp : ∀ i j, i < 4 → j < 4 → X[5 + i * 4 + j]? = some (.int .i64 (C i j))

theorem inRange (n lo hi : Int) (t : Bool) (ht : Hid (decide (lo ≤ n ∧ n ≤ hi) = t)) (w : World) :
    Calls Try.prog 84 #[.int .i64 n, .int .i64 lo, .int .i64 hi] w fun e w' => e = .returned (.bool t) ∧ w = w' := by
  by_cases h1 : lo ≤ n
  · by_cases h2 : n ≤ hi
    · have e : t = true := by rw [← unhide ht]; simp [h1, h2]
      subst e
      go_enter Try.func84, Try.ntmps84
      go_wp2
      go_ret
      exact ⟨by simp, rfl⟩
    · have e : t = false := by rw [← unhide ht]; simp [h2]
      subst e
      go_enter Try.func84, Try.ntmps84
      go_wp2
      go_ret
      exact ⟨by simp, rfl⟩
  · have e : t = false := by rw [← unhide ht]; simp [h1]
    subst e
    have hd : decide (lo ≤ n) = false := by simpa using h1
    go_enter Try.func84, Try.ntmps84
    go_wp2
    go_ret
    exact ⟨rfl, rfl⟩

end Go.Proofs.Ytkefpjbdkhifhaa

namespace Go.Proofs.Ytkefpjbdkhifhaa
open Go.RowKit

/-- The cells of component i, where the frame lies. -/
theorem fx_cell {X : Array Value} {p wd ht rs n : Int} {C : Nat → Nat → Int} (hX : Fx X p wd ht rs n C) {w : World} {g : Nat} {t : TypeId} (hb : w.heap[g]? = some (.cells X t (0, 0))) (i j : Nat) (hi : i < 4) (hj : j < 4) :
    w.cell? ⟨g, 5 + i * 4 + j, none⟩ = some (.int .i64 (C i j)) := by rw [cell_of_row w g _ X t (0, 0) hb]; exact hX.comp i j hi hj

end Go.Proofs.Ytkefpjbdkhifhaa
