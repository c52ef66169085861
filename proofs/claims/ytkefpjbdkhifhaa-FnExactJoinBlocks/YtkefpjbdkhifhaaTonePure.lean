/-
  Planes that are made row by row, and means by columns: the mathematics.
-/
import Derived.Test.YtkefpjbdkhifhaaSampPure
namespace Go.Proofs.Ytkefpjbdkhifhaa

/-- A list of which the first k numbers are laid, noughts behind them. -/
def laidTo (X : List Int) (k : Nat) : List Int := X.take k ++ List.replicate (X.length - k) 0
theorem laidTo_zero (X : List Int) : laidTo X 0 = List.replicate X.length 0 := by simp [laidTo]
theorem laidTo_all (X : List Int) : laidTo X X.length = X := by simp [laidTo]
theorem laidTo_len (X : List Int) (k : Nat) (h : k ≤ X.length) : (laidTo X k).length = X.length := by simp [laidTo]; omega
theorem laidTo_set (X : List Int) (k : Nat) (h : k < X.length) (z : Int) (hz : X.getD k 0 = z) : (laidTo X k).set k z = laidTo X (k + 1) := by
  subst hz
  unfold laidTo
  rw [List.set_append_right _ _ (by simp; omega)]
  have e : X.length - k = (X.length - (k + 1)) + 1 := by omega
  have hl : (X.take k).length = k := by simp; omega
  rw [hl, Nat.sub_self, e, List.replicate_succ, List.set_cons_zero, List.take_succ_eq_append_getElem h, List.append_assoc]
  simp [h]
/-- A piece laid over a list. -/
def spliceL (L S : List Int) (off : Nat) : List Int := L.take off ++ S ++ L.drop (off + S.length)
theorem spliceL_len (L S : List Int) (off : Nat) (h : off + S.length ≤ L.length) : (spliceL L S off).length = L.length := by
  simp [spliceL]; omega
theorem laidTo_splice (X S : List Int) (k : Nat) (h : k + S.length ≤ X.length) (hS : S = (X.drop k).take S.length) : spliceL (laidTo X k) S k = laidTo X (k + S.length) := by
  unfold spliceL laidTo
  have h1 : (X.take k).length = k := by simp; omega
  rw [List.take_append_of_le_length (by omega), List.take_of_length_le (by omega), List.drop_append, h1, List.drop_eq_nil_of_le (by omega), List.nil_append]
  rw [show k + S.length - k = S.length by omega, List.drop_replicate]
  rw [show X.length - k - S.length = X.length - (k + S.length) by omega]
  rw [List.take_add]
  rw [← hS]
theorem spliceL_at (L S : List Int) (off i : Nat) (h : off + S.length ≤ L.length) : (spliceL L S off).getD i 0 = if off ≤ i ∧ i < off + S.length then S.getD (i - off) 0 else L.getD i 0 := by
  unfold spliceL
  rw [List.getD_eq_getElem?_getD]
  by_cases h1 : i < off
  · rw [if_neg (by omega), List.append_assoc, List.getElem?_append_left (by simp; omega), List.getElem?_take_of_lt h1, List.getD_eq_getElem?_getD]
  · by_cases h2 : i < off + S.length
    · rw [if_pos ⟨by omega, h2⟩, List.getElem?_append_left (by simp; omega), List.getElem?_append_right (by simp; omega), List.getD_eq_getElem?_getD]
      have : (L.take off).length = off := by simp; omega
      rw [this]
    · rw [if_neg (by omega), List.getElem?_append_right (by simp; omega), List.getElem?_drop, List.getD_eq_getElem?_getD]
      have : (L.take off ++ S).length = off + S.length := by simp; omega
      rw [this]
      congr 2
      omega

/-- One row of a plane. -/
def rowL (L : List Int) (w r : Nat) : List Int := (L.drop (r * w)).take w
theorem row_end {w h r : Nat} (hr : r < h) : r * w + w ≤ h * w := by
  have : (r + 1) * w ≤ h * w := Nat.mul_le_mul_right w hr
  rw [Nat.add_mul, Nat.one_mul] at this
  exact this
theorem rowL_len {L : List Int} {w h r : Nat} (hl : L.length = w * h) (hr : r < h) : (rowL L w r).length = w := by
  have := row_end (w := w) hr
  simp [rowL]
  rw [hl, Nat.mul_comm w h]
  omega
theorem rowL_at {L : List Int} {w r x : Nat} (hx : x < w) : (rowL L w r).getD x 0 = L.getD (r * w + x) 0 := by
  simp [rowL, List.getElem?_take_of_lt hx]
theorem grid_row {w h : Nat} (f : Nat → Nat → Int) {y : Nat} (hy : y < h) : ((gridL w h f).drop (y * w)).take w = (List.range w).map (f y) := by
  have hl := rowL_len (L := gridL w h f) (w := w) (h := h) (r := y) (gridL_len w h f) hy
  refine List.ext_getElem (by simpa [rowL] using hl) (fun i h1 h2 => ?_)
  have hi : i < w := by simpa using h2
  have e1 := rowL_at (L := gridL w h f) (w := w) (r := y) hi
  rw [gridL_at f hy hi] at e1
  have e2 : (rowL (gridL w h f) w y).getD i 0 = (rowL (gridL w h f) w y)[i]'(by rw [hl]; exact hi) := by
    rw [List.getD_eq_getElem?_getD, List.getElem?_eq_getElem (by rw [hl]; exact hi)]; rfl
  rw [e2] at e1
  simpa [rowL] using e1

/-- The sum of so many numbers. -/
theorem sumK_row {L : List Int} {w r a : Nat} : ∀ c, a + c ≤ w → sumK (rowL L w r) 0 a c = sumK L (r * w) a c
  | 0, _ => rfl
  | c + 1, h => by
    rw [sumK, sumK, sumK_row c (by omega), Nat.zero_add, rowL_at (by omega)]
/-- The sums of columns over so many rows. -/
def colS (L : List Int) (w r0 x : Nat) : Nat → Int
  | 0 => 0
  | j + 1 => colS L w r0 x j + L.getD ((r0 + j) * w + x) 0
def colsL (L : List Int) (w r0 R : Nat) : List Int := (List.range w).map fun x => colS L w r0 x R
theorem colsL_len (L : List Int) (w r0 R : Nat) : (colsL L w r0 R).length = w := by simp [colsL]
theorem colsL_at (L : List Int) (w r0 R x : Nat) (hx : x < w) : (colsL L w r0 R).getD x 0 = colS L w r0 x R := by simp [colsL, hx]
theorem colsL_zero (L : List Int) (w r0 : Nat) : colsL L w r0 0 = List.replicate w 0 := by
  refine List.ext_getElem (by simp [colsL]) (fun i h1 h2 => ?_)
  simp [colsL, colS]
theorem sumK_none {w r0 : Nat} {L : List Int} {a : Nat} : ∀ c, a + c ≤ w → sumK (colsL L w r0 0) 0 a c = 0
  | 0, _ => rfl
  | c + 1, h => by
    rw [sumK, sumK_none c (by omega), Nat.zero_add, colsL_at _ _ _ _ _ (by omega)]; rfl
theorem sumK_next {w r0 R : Nat} {L : List Int} {a : Nat} : ∀ c, a + c ≤ w → sumK (colsL L w r0 (R + 1)) 0 a c = sumK (colsL L w r0 R) 0 a c + sumK L ((r0 + R) * w) a c
  | 0, _ => rfl
  | c + 1, h => by
    rw [sumK, sumK, sumK, sumK_next c (by omega), Nat.zero_add, colsL_at _ _ _ _ _ (by omega), colsL_at _ _ _ _ _ (by omega), colS]
    omega
theorem sumK_cols {w r0 : Nat} {L : List Int} {a c : Nat} (h : a + c ≤ w) : ∀ R, sumK (colsL L w r0 R) 0 a c = sumR L w r0 a c R
  | 0 => by rw [sumK_none c h]; rfl
  | R + 1 => by rw [sumK_next c h, sumK_cols h R]; rfl
theorem colS_in {L : List Int} {w r0 x : Nat} (hL : ∀ i, 0 ≤ L.getD i 0 ∧ L.getD i 0 ≤ 4095) : ∀ R, 0 ≤ colS L w r0 x R ∧ colS L w r0 x R ≤ 4095 * R
  | 0 => by simp [colS]
  | R + 1 => by
    have h1 := colS_in (w := w) (r0 := r0) (x := x) hL R
    have h2 := hL ((r0 + R) * w + x)
    rw [colS]
    omega
theorem sum_take {S : List Int} {a : Nat} : ∀ c, a + c ≤ S.length → ((S.drop a).take c).sum = sumK S 0 a c
  | 0, _ => by simp [sumK]
  | c + 1, h => by
    have hl : c < (S.drop a).length := by simp; omega
    rw [sumK, ← sum_take c (by omega), List.take_succ_eq_append_getElem hl, List.sum_append]
    simp
    rw [List.getElem?_eq_getElem (by omega)]
    simp

/-- A row of means. -/
def meansL (S : List Int) (nw deep : Nat) : List Int := (List.range nw).map fun x => meanI (sumK S 0 (fromN S.length nw x) (toN S.length nw x - fromN S.length nw x)) (deep * (toN S.length nw x - fromN S.length nw x))
theorem meansL_len (S : List Int) (nw deep : Nat) : (meansL S nw deep).length = nw := by simp [meansL]
theorem meansL_at (S : List Int) (nw deep x : Nat) (hx : x < nw) : (meansL S nw deep).getD x 0 = meanI (sumK S 0 (fromN S.length nw x) (toN S.length nw x - fromN S.length nw x)) (deep * (toN S.length nw x - fromN S.length nw x)) := by simp [meansL, hx]
theorem means_one {L : List Int} {w h nw nh y : Nat} (hl : L.length = w * h) (hw : 1 ≤ w) (hy : y < nh) (h1 : toN h nh y - fromN h nh y = 1) : meansL (rowL L w (fromN h nh y)) nw 1 = (List.range nw).map (shrinkF L w h nw nh y) := by
  have hr : fromN h nh y < h := by have := to_le (m := h) hy; omega
  unfold meansL
  refine List.map_congr_left (fun x hx => ?_)
  have hx' : x < nw := List.mem_range.1 hx
  have tk := to_le (m := w) hx'
  have hk := from_to (m := w) (n := nw) (k := x) (by omega) hw
  rw [rowL_len hl hr, shrinkF, h1, sumK_row _ (by omega)]
  simp [sumR]
theorem means_more {L : List Int} {w h nw nh y : Nat} (hw : 1 ≤ w) : meansL (colsL L w (fromN h nh y) (toN h nh y - fromN h nh y)) nw (toN h nh y - fromN h nh y) = (List.range nw).map (shrinkF L w h nw nh y) := by
  unfold meansL
  refine List.map_congr_left (fun x hx => ?_)
  have hx' : x < nw := List.mem_range.1 hx
  have tk := to_le (m := w) hx'
  have hk := from_to (m := w) (n := nw) (k := x) (by omega) hw
  rw [colsL_len, shrinkF, sumK_cols (by omega)]

end Go.Proofs.Ytkefpjbdkhifhaa
