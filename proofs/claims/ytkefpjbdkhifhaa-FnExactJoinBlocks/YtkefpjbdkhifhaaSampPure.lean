/-
  Planes that become smaller and greater, and fall into blocks: the mathematics.
-/
import Derived.Test.YtkefpjbdkhifhaaKit
namespace Go.Proofs.Ytkefpjbdkhifhaa

/-- A list that is laid row by row, w numbers a row. -/
def gridL (w h : Nat) (f : Nat → Nat → Int) : List Int := (List.range (w * h)).map fun i => f (i / w) (i % w)
theorem gridL_len (w h : Nat) (f : Nat → Nat → Int) : (gridL w h f).length = w * h := by simp [gridL]
theorem gridL_at {w h : Nat} (f : Nat → Nat → Int) {y x : Nat} (hy : y < h) (hx : x < w) : (gridL w h f).getD (y * w + x) 0 = f y x := by
  have hlt : y * w + x < w * h := by
    have : (y + 1) * w ≤ h * w := Nat.mul_le_mul_right w hy
    rw [Nat.add_mul, Nat.one_mul] at this
    rw [Nat.mul_comm w h]
    omega
  have h1 : (y * w + x) / w = y := by
    rw [Nat.add_comm, Nat.add_mul_div_right _ _ (by omega), Nat.div_eq_of_lt hx, Nat.zero_add]
  have h2 : (y * w + x) % w = x := by
    rw [Nat.add_comm, Nat.add_mul_mod_self_right, Nat.mod_eq_of_lt hx]
  simp [gridL, hlt, h1, h2]
theorem gridL_congr {w h : Nat} {f g : Nat → Nat → Int} (hfg : ∀ y x, y < h → x < w → f y x = g y x) : gridL w h f = gridL w h g := by
  unfold gridL
  refine List.map_congr_left (fun i hi => ?_)
  have hi' : i < w * h := List.mem_range.1 hi
  have hw : 0 < w := Nat.pos_of_ne_zero (fun e => by subst e; simp at hi')
  exact hfg _ _ (Nat.div_lt_of_lt_mul hi') (Nat.mod_lt _ hw)
/-- Each list of so many numbers is laid so. -/
theorem gridL_self {w h : Nat} {L : List Int} (hl : L.length = w * h) : gridL w h (fun y x => L.getD (y * w + x) 0) = L := by
  refine List.ext_getElem (by rw [gridL_len, hl]) (fun i h1 h2 => ?_)
  have hw : 0 < w := Nat.pos_of_ne_zero (fun e => by subst e; simp [gridL] at h1)
  have e : i / w * w + i % w = i := Nat.div_add_mod' i w
  simp [gridL, e, h2]
theorem gridL_take (w h : Nat) (f : Nat → Nat → Int) (i : Nat) (hi : i < w * h) : (gridL w h f).take (i + 1) = (gridL w h f).take i ++ [f (i / w) (i % w)] := by
  rw [List.take_succ_eq_append_getElem (by rw [gridL_len]; exact hi)]
  simp [gridL]

/-- Sides that a plane may have. -/
def sidesB (w h : Int) : Bool := decide (1 ≤ w ∧ w ≤ 1024) && decide (1 ≤ h ∧ h ≤ 1024) && decide (w * h ≤ 131072)
def planeB (L : List Int) (w h : Int) : Bool := sidesB w h && decide ((L.length : Int) = w * h) && L.all fun x => decide (0 ≤ x ∧ x ≤ 4095)
structure Plane (L : List Int) (w h : Nat) : Prop where
  w1 : 1 ≤ w
  h1 : 1 ≤ h
  len : L.length = w * h
  num : ∀ x ∈ L, 0 ≤ x ∧ x ≤ 4095

/-- The mean, rounded, halves away from 0 (no number is below 0 here). -/
def meanI (s : Int) (n : Nat) : Int := (2 * s + n) / (2 * n)
theorem mean_same (v : Int) (n : Nat) (hn : 0 < n) : meanI (n * v) n = v := by
  unfold meanI
  have e : 2 * ((n : Int) * v) + n = n + (2 * n) * v := by rw [Int.mul_assoc]; omega
  rw [e, Int.add_mul_ediv_left _ _ (by omega), Int.ediv_eq_zero_of_lt (by omega) (by omega), Int.zero_add]
theorem mean_le {s hi : Int} {n : Nat} (hn : 0 < n) (h : s ≤ n * hi) : meanI s n ≤ hi := by
  have h1 : meanI s n ≤ meanI (n * hi) n := by
    unfold meanI
    exact Int.ediv_le_ediv (by omega) (by omega)
  rw [mean_same hi n hn] at h1
  exact h1
theorem mean_ge {s lo : Int} {n : Nat} (hn : 0 < n) (h : n * lo ≤ s) : lo ≤ meanI s n := by
  have h1 : meanI (n * lo) n ≤ meanI s n := by
    unfold meanI
    exact Int.ediv_le_ediv (by omega) (by omega)
  rw [mean_same lo n hn] at h1
  exact h1

/-- From where on, and up to where, the k-th of n is taken of m. -/
def fromN (m n k : Nat) : Nat := k * m / n
def toN (m n k : Nat) : Nat := ((k + 1) * m + n - 1) / n
theorem from_to {m n k : Nat} (hn : 1 ≤ n) (hm : 1 ≤ m) : fromN m n k < toN m n k := by
  unfold fromN toN
  have hd := Nat.div_mul_le_self (k * m) n
  have h2 : (k * m / n + 1) * n ≤ (k + 1) * m + n - 1 := by
    rw [Nat.add_mul, Nat.one_mul, Nat.add_mul, Nat.one_mul]
    omega
  exact Nat.lt_of_lt_of_le (Nat.lt_succ_self _) ((Nat.le_div_iff_mul_le (by omega)).2 h2)
theorem to_le {m n k : Nat} (hk : k < n) : toN m n k ≤ m := by
  unfold toN
  have h1 : (k + 1) * m ≤ n * m := Nat.mul_le_mul_right m hk
  have hn : 0 < n := by omega
  have e : n * (m + 1) = n * m + n := by rw [Nat.mul_add, Nat.mul_one]
  have h2 : (k + 1) * m + n - 1 < n * (m + 1) := by
    rw [e]
    omega
  exact Nat.le_of_lt_succ (Nat.div_lt_of_lt_mul h2)

/-- The sum over a row's part, and over rows. -/
def sumK (L : List Int) (at0 a : Nat) : Nat → Int
  | 0 => 0
  | j + 1 => sumK L at0 a j + L.getD (at0 + (a + j)) 0
def sumR (L : List Int) (w r0 a c : Nat) : Nat → Int
  | 0 => 0
  | j + 1 => sumR L w r0 a c j + sumK L ((r0 + j) * w) a c
def shrinkF (L : List Int) (w h nw nh y x : Nat) : Int :=
  meanI (sumR L w (fromN h nh y) (fromN w nw x) (toN w nw x - fromN w nw x) (toN h nh y - fromN h nh y)) ((toN h nh y - fromN h nh y) * (toN w nw x - fromN w nw x))
def shrinkL (L : List Int) (w h nw nh : Nat) : List Int := gridL nw nh (shrinkF L w h nw nh)
def growL (L : List Int) (w h nw nh : Nat) : List Int := gridL nw nh fun y x => L.getD (y * h / nh * w + x * w / nw) 0
def padL (L : List Int) (w h nw nh : Nat) : List Int := gridL nw nh fun y x => L.getD (min y (h - 1) * w + min x (w - 1)) 0
def cropL (L : List Int) (w nw nh : Nat) : List Int := gridL nw nh fun y x => L.getD (y * w + x) 0
def cutL (L : List Int) (w h : Nat) : List (List Int) := (List.range (h / 8 * (w / 8))).map fun j => (List.range 64).map fun i => L.getD ((8 * (j / (w / 8)) + i / 8) * w + 8 * (j % (w / 8)) + i % 8) 0
def joinL (B : List (List Int)) (w h : Nat) : List Int := gridL w h fun y x => (B.getD (y / 8 * (w / 8) + x / 8) []).getD (y % 8 * 8 + x % 8) 0

theorem sumK_const {L : List Int} {at0 a : Nat} {v : Int} : ∀ c, (∀ j, j < c → L.getD (at0 + (a + j)) 0 = v) → sumK L at0 a c = c * v
  | 0, _ => by simp [sumK]
  | c + 1, h => by
    rw [sumK, sumK_const c (fun j hj => h j (by omega)), h c (by omega)]
    push_cast
    rw [Int.add_mul, Int.one_mul]
theorem sumR_const {L : List Int} {w r0 a c : Nat} {v : Int} : ∀ r, (∀ i j, i < r → j < c → L.getD ((r0 + i) * w + (a + j)) 0 = v) → sumR L w r0 a c r = ((r * c : Nat) : Int) * v
  | 0, _ => by simp [sumR]
  | r + 1, h => by
    rw [sumR, sumR_const r (fun i j hi hj => h i j (by omega) hj), sumK_const c (fun j hj => h r j (by omega) hj), Nat.add_mul, Nat.one_mul]
    push_cast
    rw [Int.add_mul]
theorem sumK_in {L : List Int} {at0 a : Nat} {lo hi : Int} : ∀ c, (∀ j, j < c → lo ≤ L.getD (at0 + (a + j)) 0 ∧ L.getD (at0 + (a + j)) 0 ≤ hi) → c * lo ≤ sumK L at0 a c ∧ sumK L at0 a c ≤ c * hi
  | 0, _ => by simp [sumK]
  | c + 1, h => by
    have h1 := sumK_in c (fun j hj => h j (by omega))
    have h2 := h c (by omega)
    rw [sumK]
    push_cast
    rw [Int.add_mul, Int.one_mul, Int.add_mul, Int.one_mul]
    omega
theorem sumR_in {L : List Int} {w r0 a c : Nat} {lo hi : Int} : ∀ r, (∀ i j, i < r → j < c → lo ≤ L.getD ((r0 + i) * w + (a + j)) 0 ∧ L.getD ((r0 + i) * w + (a + j)) 0 ≤ hi) → ((r * c : Nat) : Int) * lo ≤ sumR L w r0 a c r ∧ sumR L w r0 a c r ≤ ((r * c : Nat) : Int) * hi
  | 0, _ => by simp [sumR]
  | r + 1, h => by
    have h1 := sumR_in r (fun i j hi hj => h i j (by omega) hj)
    have h2 := sumK_in (L := L) (at0 := (r0 + r) * w) (a := a) c (fun j hj => h r j (by omega) hj)
    rw [sumR, Nat.add_mul, Nat.one_mul]
    push_cast at h1 h2 ⊢
    rw [Int.add_mul, Int.add_mul]
    omega
/-- Where a plane's rows and columns that are taken lie. -/
theorem in_plane {L : List Int} {w h : Nat} (hl : L.length = w * h) {r k : Nat} (hr : r < h) (hk : k < w) : ∃ hi : r * w + k < L.length, L.getD (r * w + k) 0 = L[r * w + k] := by
  have hlt : r * w + k < L.length := by
    have : (r + 1) * w ≤ h * w := Nat.mul_le_mul_right w hr
    rw [Nat.add_mul, Nat.one_mul] at this
    rw [hl, Nat.mul_comm w h]
    omega
  exact ⟨hlt, by simp [hlt]⟩
/-- No sample of a smaller plane is outside of those it comes from. -/
theorem shrink_in {L : List Int} {w h nw nh : Nat} (hl : L.length = w * h) (hw : 1 ≤ w) (hh : 1 ≤ h) {lo hi : Int} (hb : ∀ v ∈ L, lo ≤ v ∧ v ≤ hi) {y x : Nat} (hy : y < nh) (hx : x < nw) : lo ≤ shrinkF L w h nw nh y x ∧ shrinkF L w h nw nh y x ≤ hi := by
  have hr := from_to (m := h) (n := nh) (k := y) (by omega) hh
  have hk := from_to (m := w) (n := nw) (k := x) (by omega) hw
  have tr := to_le (m := h) hy
  have tk := to_le (m := w) hx
  have h1 := sumR_in (L := L) (w := w) (r0 := fromN h nh y) (a := fromN w nw x) (c := toN w nw x - fromN w nw x) (lo := lo) (hi := hi) (toN h nh y - fromN h nh y) (fun i j hi' hj => by
    obtain ⟨hlt, e⟩ := in_plane hl (r := fromN h nh y + i) (k := fromN w nw x + j) (by omega) (by omega)
    rw [e]
    exact hb _ (List.getElem_mem hlt))
  have hpos : 0 < (toN h nh y - fromN h nh y) * (toN w nw x - fromN w nw x) := Nat.mul_pos (by omega) (by omega)
  exact ⟨mean_ge hpos h1.1, mean_le hpos h1.2⟩
/-- A plane that was made greater by whole numbers of times is got back. -/
theorem grow_back {L : List Int} {w h a b : Nat} (hl : L.length = w * h) (hw : 1 ≤ w) (hh : 1 ≤ h) (ha : 1 ≤ a) (hb : 1 ≤ b) : shrinkL (growL L w h (a * w) (b * h)) (a * w) (b * h) w h = L := by
  have e1 : ∀ y, fromN (b * h) h y = y * b := fun y => by
    unfold fromN
    rw [← Nat.mul_assoc, Nat.mul_div_cancel _ (by omega)]
  have e2 : ∀ y, toN (b * h) h y = (y + 1) * b := fun y => by
    unfold toN
    rw [← Nat.mul_assoc, Nat.add_sub_assoc (by omega), Nat.add_comm, Nat.add_mul_div_right _ _ (by omega), Nat.div_eq_of_lt (by omega), Nat.zero_add]
  have e3 : ∀ x, fromN (a * w) w x = x * a := fun x => by
    unfold fromN
    rw [← Nat.mul_assoc, Nat.mul_div_cancel _ (by omega)]
  have e4 : ∀ x, toN (a * w) w x = (x + 1) * a := fun x => by
    unfold toN
    rw [← Nat.mul_assoc, Nat.add_sub_assoc (by omega), Nat.add_comm, Nat.add_mul_div_right _ _ (by omega), Nat.div_eq_of_lt (by omega), Nat.zero_add]
  unfold shrinkL
  rw [← gridL_self hl]
  refine gridL_congr (fun y x hy hx => ?_)
  rw [gridL_self hl]
  unfold shrinkF
  rw [e1, e2, e3, e4]
  have ha' : (x + 1) * a - x * a = a := by rw [Nat.add_mul, Nat.one_mul]; omega
  have hb' : (y + 1) * b - y * b = b := by rw [Nat.add_mul, Nat.one_mul]; omega
  rw [ha', hb', sumR_const (v := L.getD (y * w + x) 0) b (fun i j hi hj => ?_), mean_same _ _ (Nat.mul_pos (by omega) (by omega))]
  have hY : y * b + i < b * h := by
    have : (y + 1) * b ≤ h * b := Nat.mul_le_mul_right b hy
    rw [Nat.add_mul, Nat.one_mul] at this
    rw [Nat.mul_comm b h]
    omega
  have hX : x * a + j < a * w := by
    have : (x + 1) * a ≤ w * a := Nat.mul_le_mul_right a hx
    rw [Nat.add_mul, Nat.one_mul] at this
    rw [Nat.mul_comm a w]
    omega
  unfold growL
  rw [gridL_at _ hY hX]
  have q1 : (y * b + i) * h / (b * h) = y := by
    rw [Nat.mul_div_mul_right _ _ (by omega), Nat.add_comm, Nat.add_mul_div_right _ _ (by omega), Nat.div_eq_of_lt hi, Nat.zero_add]
  have q2 : (x * a + j) * w / (a * w) = x := by
    rw [Nat.mul_div_mul_right _ _ (by omega), Nat.add_comm, Nat.add_mul_div_right _ _ (by omega), Nat.div_eq_of_lt hj, Nat.zero_add]
  rw [q1, q2]
/-- A plane with more at its edges is got back. -/
theorem pad_back {L : List Int} {w h nw nh : Nat} (hl : L.length = w * h) (hw : w ≤ nw) (hh : h ≤ nh) : cropL (padL L w h nw nh) nw w h = L := by
  unfold cropL
  conv => rhs; rw [← gridL_self hl]
  refine gridL_congr (fun y x hy hx => ?_)
  unfold padL
  rw [gridL_at _ (by omega) (by omega), Nat.min_eq_left (by omega), Nat.min_eq_left (by omega)]
/-- A plane is got back from its blocks. -/
theorem cut_back {L : List Int} {w h : Nat} (hl : L.length = w * h) (hw : w % 8 = 0) (hh : h % 8 = 0) : joinL (cutL L w h) w h = L := by
  unfold joinL
  conv => rhs; rw [← gridL_self hl]
  refine gridL_congr (fun y x hy hx => ?_)
  have hx8 : x / 8 < w / 8 := by omega
  have hy8 : y / 8 < h / 8 := by omega
  have hj : y / 8 * (w / 8) + x / 8 < h / 8 * (w / 8) := by
    have : (y / 8 + 1) * (w / 8) ≤ h / 8 * (w / 8) := Nat.mul_le_mul_right _ hy8
    rw [Nat.add_mul, Nat.one_mul] at this
    omega
  have h1 : (y / 8 * (w / 8) + x / 8) / (w / 8) = y / 8 := by
    rw [Nat.add_comm, Nat.add_mul_div_right _ _ (by omega), Nat.div_eq_of_lt hx8, Nat.zero_add]
  have h2 : (y / 8 * (w / 8) + x / 8) % (w / 8) = x / 8 := by
    rw [Nat.add_comm, Nat.add_mul_mod_self_right, Nat.mod_eq_of_lt hx8]
  have hi : y % 8 * 8 + x % 8 < 64 := by omega
  have e1 : (cutL L w h).getD (y / 8 * (w / 8) + x / 8) [] = (List.range 64).map fun i => L.getD ((8 * (y / 8) + i / 8) * w + 8 * (x / 8) + i % 8) 0 := by
    simp [cutL, hj, h1, h2]
  rw [e1]
  have e2 : ((List.range 64).map fun i => L.getD ((8 * (y / 8) + i / 8) * w + 8 * (x / 8) + i % 8) 0).getD (y % 8 * 8 + x % 8) 0 = L.getD ((8 * (y / 8) + (y % 8 * 8 + x % 8) / 8) * w + 8 * (x / 8) + (y % 8 * 8 + x % 8) % 8) 0 := by
    simp [hi]
  rw [e2]
  have h3 : (y % 8 * 8 + x % 8) / 8 = y % 8 := by omega
  have h4 : (y % 8 * 8 + x % 8) % 8 = x % 8 := by omega
  rw [h3, h4, show 8 * (y / 8) + y % 8 = y by omega, Nat.add_assoc, show 8 * (x / 8) + x % 8 = x by omega]
end Go.Proofs.Ytkefpjbdkhifhaa
