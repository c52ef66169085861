/-
  Kit, SampPure, Ints, RowsK, Tree, TreeG, TreeGA, AppIntS, HeldTail, SampLaid, Between.
-/
import Derived.WalkKit
import Derived.ProofKit
import Derived.Below
import Derived.WalkSpells
import Derived.Deep.QuietTactic
import Derived.BigQuiet
import Derived.Deep.RegionWith
import Derived.Test.YtkefpjbdkhifhaaRows
import Derived.Maps.AppendAt
import Derived.Deep.AppendLies
import Derived.OrdersHeld
import Derived.Deep.RegionHeld
import Derived.Deep.RegionHeld3

namespace Go.Proofs.Ytkefpjbdkhifhaa
open Go.RowKit

/-- What is read through a slice of numbers: cell i behind its head holds number i. -/
def Rd (k : IntKind) (w : World) (ao : Option Addr) (n : Nat) (zs : List Int) : Prop :=
  zs.length = n ∧ ∀ i, i < n → ∃ b off, ao = some ⟨b, off, none⟩ ∧ w.cell? ⟨b, off + i, none⟩ = some (.int k (zs.getD i 0))

theorem hide {p : Prop} (h : p) : Hid p := h
theorem unhide {p : Prop} (h : Hid p) : p := h

theorem i64_in (n : Int) (h : -9223372036854775808 ≤ n ∧ n ≤ 9223372036854775807) : IntKind.i64.wrap n = n := by
  rw [IntKind.wrap_i64]; omega
theorem ret_bool {a b : Bool} (h : a = b) : Ending.returned (.bool a) = .returned (.bool b) := by rw [h]

theorem grown_trans {a b c : World} {row : Option Nat} (h : a.grownBy b row) (g : b.grownBy c row) : a.grownBy c row :=
  ⟨g.os.trans h.os, g.tape.trans h.tape, g.output.trans h.output, Nat.le_trans h.size g.size, fun k hk hr => (g.block k (Nat.lt_of_lt_of_le hk h.size) hr).trans (h.block k hk hr)⟩

/-- A world that has grown by new rows alone, and then by writes into one of these. -/
theorem grown_new {a b c : World} {row : Option Nat} (h : a.grownBy b none) (hg : b.grownBy c row) (hge : ∀ g, row = some g → a.heap.size ≤ g) : a.grownBy c none :=
  ⟨hg.os.trans h.os, hg.tape.trans h.tape, hg.output.trans h.output, Nat.le_trans h.size hg.size, fun k hk hr => (hg.block k (Nat.lt_of_lt_of_le hk h.size) (by intro e; have := hge k e.symm; omega)).trans (h.block k hk hr)⟩

theorem grown_alloc {a b : World} (h : a.grownBy b none) (o : Obj) : a.grownBy (b.alloc o) none := grown_trans h (World.grownBy_alloc _ _ _)
theorem grown_any {a b : World} {row : Option Nat} (h : a.grownBy b none) : a.grownBy b row := ⟨h.os, h.tape, h.output, h.size, fun k hk _ => h.block k hk (by simp)⟩
theorem grown_drewN {a b : World} {row : Option Nat} (h : a.grownBy b row) (q : Nat) : a.grownBy (b.drewN q) row := ⟨h.os, h.tape, h.output, h.size, h.block⟩
theorem grown_drew {a b : World} {row : Option Nat} (h : a.grownBy b row) : a.grownBy b.drew row := ⟨h.os, h.tape, h.output, h.size, h.block⟩
theorem grown_below {a b : World} (h : a.grownBy b none) : Below a.heap.size a b := ⟨h.os, h.tape, h.output, h.size, fun k hk => h.block k hk (by simp)⟩

theorem Rd.grown {k : IntKind} {w w' : World} {ao : Option Addr} {n : Nat} {zs : List Int} (h : Rd k w ao n zs) (hg : w.grownBy w' none) : Rd k w' ao n zs :=
  ⟨h.1, fun i hi => by obtain ⟨b, off, e, hc⟩ := h.2 i hi; exact ⟨b, off, e, hg.cell hc (by simp)⟩⟩
/-- What is read stays when a row beside it is written. -/
theorem Rd.beside {k : IntKind} {w w' : World} {ao : Option Addr} {n g : Nat} {zs : List Int} (h : Rd k w ao n zs) (hg : w.grownBy w' (some g)) (hne : 0 < n → ∀ b off, ao = some ⟨b, off, none⟩ → b ≠ g) : Rd k w' ao n zs :=
  ⟨h.1, fun i hi => by obtain ⟨b, off, e, hc⟩ := h.2 i hi; exact ⟨b, off, e, hg.cell hc (by simp; exact hne (by omega) b off e)⟩⟩
theorem Rd.lt {k : IntKind} {w : World} {ao : Option Addr} {n : Nat} {zs : List Int} (h : Rd k w ao n zs) : 0 < n → ∀ b off, ao = some ⟨b, off, none⟩ → b < w.heap.size := by
  intro hn b off e
  obtain ⟨b', off', e', hc⟩ := h.2 0 hn
  rw [e] at e'
  simp at e'
  rw [e'.1]
  exact World.block_lt_of_cell? w _ hc
theorem Rd.drewN {k : IntKind} {w : World} {ao : Option Addr} {n : Nat} {zs : List Int} (h : Rd k w ao n zs) (q : Nat) : Rd k (w.drewN q) ao n zs := h

/-- A slice that came in, as the row's step hands it over. -/
theorem rd_of_row {K : IntKind} {w : World} {x : Addr} {n cap : Nat} {zs : List Int} (hl : n ≤ cap) (hz : zs.length = cap) (hcell : ∀ i, i < zs.length → w.cell? (x.add i) = some (.int K (zs.getD i 0))) : Rd K w (some x) n (zs.take n) := by
  refine ⟨by simp; omega, fun i hi => ?_⟩
  obtain ⟨b, off, spot⟩ := x
  have hc := hcell i (by omega)
  have hspot : spot = none := by simpa [Addr.add] using World.cell?_spot (hcell 0 (by omega))
  subst hspot
  refine ⟨b, off, rfl, ?_⟩
  have e : (zs.take n).getD i 0 = zs.getD i 0 := by simp [hi]
  rw [e]
  rw [Addr.add_lit] at hc
  exact hc

/-- What lies between two bounds, with nought between them, does so wherever it is asked for. -/
theorem take_within {zs : List Int} {lo hi : Int} (h : ∀ q ∈ zs, lo ≤ q ∧ q ≤ hi) (n i : Nat) (h0 : lo ≤ 0 ∧ 0 ≤ hi) : lo ≤ (zs.take n).getD i 0 ∧ (zs.take n).getD i 0 ≤ hi := by
  by_cases hi' : i < (zs.take n).length
  · have e : (zs.take n).getD i 0 = (zs.take n)[i] := by rw [List.getD_eq_getElem?_getD, List.getElem?_eq_getElem hi']; rfl
    rw [e]
    exact h _ (List.mem_of_mem_take (List.getElem_mem hi'))
  · have e : (zs.take n).getD i 0 = 0 := by rw [List.getD_eq_getElem?_getD, List.getElem?_eq_none (by omega)]; rfl
    rw [e]
    exact h0

section
variable {w : World} {base : Nat} {e : TypeId} {ao : Option Addr} {n cap : Nat}

theorem own_form {v : Value} {size : Nat} {xs : List Value} (h : w.ownsRow base e size v n xs) : ∃ ao cap, v = .slice ao n cap := by
  rcases h.2 with ⟨h1, h2⟩ | ⟨g, cap, _, h1, _⟩
  · subst h2; exact ⟨_, _, h1⟩
  · exact ⟨_, _, h1⟩

theorem own_at {size : Nat} {xs : List Value} (h : w.ownsRow base e size (.slice ao n cap) n xs) (hn : 0 < n) : ∃ g, ao = some ⟨g, 0, none⟩ ∧ base ≤ g ∧ g < w.heap.size := by
  rcases h.2 with ⟨_, h2⟩ | ⟨g, cap', _, h1, hb, hh, _⟩
  · omega
  · simp only [Value.slice.injEq, true_and] at h1
    exact ⟨g, h1.1, hb, by obtain ⟨h, _⟩ := Array.getElem?_eq_some_iff.1 hh; exact h⟩

theorem own_rd {k : IntKind} {zs : List Int} (h : w.ownsRow base e 1 (.slice ao n cap) n (zs.map (Value.int k))) : Rd k w ao n zs := by
  have hl : zs.length = n := by have := h.1; simpa using this
  refine ⟨hl, fun i hi => ?_⟩
  obtain ⟨g, rfl, _, _⟩ := own_at h (by omega)
  refine ⟨g, 0, rfl, ?_⟩
  rw [Nat.zero_add, h.cellAt i (by omega)]
  simp [show i < zs.length by omega]

theorem own_drewN {v : Value} {size : Nat} {xs : List Value} (h : w.ownsRow base e size v n xs) (q : Nat) : (w.drewN q).ownsRow base e size v n xs := h

theorem own_base {v : Value} {size base' : Nat} {xs : List Value} (h : w.ownsRow base e size v n xs) (hb : base' ≤ base) : w.ownsRow base' e size v n xs :=
  by
  rcases h with ⟨h0, h1 | ⟨g, cap, cur, h1, h2, r⟩⟩
  · exact ⟨h0, .inl h1⟩
  · exact ⟨h0, .inr ⟨g, cap, cur, h1, by omega, r⟩⟩

/-- What is owned stays owned when only new rows come. -/
theorem own_grown {w' : World} {v : Value} {size : Nat} {xs : List Value} (h : w.ownsRow base e size v n xs) (hg : w.grownBy w' none) : w'.ownsRow base e size v n xs :=
  h.kept (grown_any hg (row := none)) (by cases hv : v.ownBlock <;> simp)

/-- What is owned from a higher number on stays owned when a lower row is written. -/
theorem own_above {w' : World} {v u : Value} {size : Nat} {xs : List Value} (h : w.ownsRow base e size v n xs) (hg : w.grownBy w' u.ownBlock)
    (hlt : ∀ g, u.ownBlock = some g → g < base) : w'.ownsRow base e size v n xs :=
  h.kept hg (by
    cases hv : v.ownBlock with
    | none => exact .inl rfl
    | some g => refine .inr (fun e => ?_); have := hlt g e.symm; have := (h.lt g hv).1; omega)

/-- What is owned by rows below a number stays owned when a row from that number on is written. -/
theorem own_beneath {w' : World} {v : Value} {size : Nat} {row : Option Nat} {xs : List Value} (h : w.ownsRow base e size v n xs) (hg : w.grownBy w' row)
    (hlt : ∀ g g', v.ownBlock = some g → row = some g' → g ≠ g') : w'.ownsRow base e size v n xs :=
  h.kept hg (by
    cases hv : v.ownBlock with
    | none => exact .inl rfl
    | some g =>
      refine .inr (fun e => ?_)
      exact hlt g g hv e.symm rfl)
end

/-- What a copy holds behind k rounds. -/
def part (K : IntKind) (zs : List Int) (k : Nat) : List Value := (zs.take k).map (Value.int K) ++ List.replicate (zs.length - k) (.int K 0)

theorem part_zero (K : IntKind) (zs : List Int) : part K zs 0 = List.replicate zs.length (.int K 0) := by simp [part]
theorem part_all (K : IntKind) (zs : List Int) : part K zs zs.length = zs.map (Value.int K) := by simp [part]
theorem part_len (K : IntKind) (zs : List Int) (k : Nat) (h : k ≤ zs.length) : (part K zs k).length = zs.length := by simp [part]; omega
theorem part_get (K : IntKind) (zs : List Int) (k j : Nat) (hk : k ≤ zs.length) (hj : j < zs.length) : (part K zs k)[j]? = some (.int K (if j < k then zs.getD j 0 else 0)) := by
  unfold part
  by_cases h : j < k
  · rw [List.getElem?_append_left (by simp; omega)]
    simp [h, hj]
  · rw [List.getElem?_append_right (by simp; omega), List.getElem?_replicate, if_pos (by simp; omega), if_neg h]
theorem part_set (K : IntKind) (zs : List Int) (k : Nat) (h : k < zs.length) : (part K zs k).set k (.int K (zs.getD k 0)) = part K zs (k + 1) := by
  apply List.ext_getElem?
  intro j
  by_cases hj : j < zs.length
  · rw [List.getElem?_set, part_get K zs (k + 1) j (by omega) hj, part_get K zs k j (by omega) hj, part_len K zs k (by omega)]
    by_cases e : k = j
    · subst e; simp [h]
    · rw [if_neg e]
      by_cases h1 : j < k
      · rw [if_pos h1, if_pos (by omega)]
      · rw [if_neg h1, if_neg (by omega)]
  · rw [List.getElem?_eq_none (by rw [List.length_set, part_len K zs k (by omega)]; omega), List.getElem?_eq_none (by rw [part_len K zs (k + 1) (by omega)]; omega)]

/-- The marks that are laid over a row, from k on, each as its kind holds it. -/
def marks (K : IntKind) (k : Int) (n : Nat) : List Int := (List.range n).map (fun i : Nat => K.wrap (k + (i : Int)))
theorem marks_len (K : IntKind) (k : Int) (n : Nat) : (marks K k n).length = n := by simp [marks]
theorem marks_get (K : IntKind) (k : Int) (n i : Nat) (h : i < n) : (marks K k n).getD i 0 = K.wrap (k + i) := by simp [marks, h]

/-- A row behind j rounds of marking. -/
def over (K : IntKind) (k : Int) (xs : List Value) (j : Nat) : List Value := (marks K k j).map (Value.int K) ++ xs.drop j
theorem over_zero (K : IntKind) (k : Int) (xs : List Value) : over K k xs 0 = xs := by simp [over, marks]
theorem over_all (K : IntKind) (k : Int) (xs : List Value) : over K k xs xs.length = (marks K k xs.length).map (Value.int K) := by simp [over]
theorem over_set (K : IntKind) (k : Int) (xs : List Value) (j : Nat) (h : j < xs.length) : (over K k xs j).set j (.int K (K.wrap (k + j))) = over K k xs (j + 1) := by
  unfold over
  rw [List.set_append_right _ _ (by simp [marks_len])]
  have e : marks K k (j + 1) = marks K k j ++ [K.wrap (k + j)] := by simp [marks, List.range_succ]
  rw [e, List.map_append, List.append_assoc]
  congr 1
  rw [List.length_map, marks_len, Nat.sub_self, List.drop_eq_getElem_cons h]
  rfl

theorem grown_set (w : World) (g j : Nat) (u : Value) : w.grownBy (w.setCell ⟨g, j, none⟩ u) (some g) :=
  ⟨rfl, rfl, rfl, by simp, fun k _ hk => heap_setCell_other w ⟨g, j, none⟩ k u (fun e => hk (by simp [e]))⟩

theorem grown_set' (w : World) (q g j : Nat) (u : Value) : w.grownBy ((w.drewN q).setCell ⟨g, j, none⟩ u) (some g) := grown_trans (grown_drewN (World.grownBy.refl _ _) q) (grown_set _ _ _ _)

theorem drop_at (zs : List Int) (k : Nat) (h : k < zs.length) : zs.drop k = zs.getD k 0 :: zs.drop (k + 1) := by
  rw [List.drop_eq_getElem_cons h]; simp [h]

theorem and1_i64 (x : Int) (h0 : 0 ≤ x) (h1 : x < 9223372036854775808) : bits BinOp.and IntKind.i64 x 1 = x % 2 := by
  have e63 : (2 : Int) ^ 63 = 9223372036854775808 := by decide
  have h := bits_mask .i64 63 (by decide) (fun n h0 h1 => by rw [e63] at h1; rw [IntKind.wrap_i64]; omega) 1 (by decide) x h0 (by rw [e63]; omega)
  have e : ((2 : Int) ^ 1 - 1) = 1 := by decide
  rw [e] at h
  rw [h]
  rfl
theorem and1_u8 (x : Int) (h0 : 0 ≤ x) (h1 : x < 256) : bits BinOp.and IntKind.u8 x 1 = x % 2 := by
  have e8 : (2 : Int) ^ 8 = 256 := by decide
  have h := bits_mask .u8 8 (by decide) (fun n h0 h1 => by rw [e8] at h1; rw [IntKind.wrap_u8]; omega) 1 (by decide) x h0 (by rw [e8]; omega)
  have e : ((2 : Int) ^ 1 - 1) = 1 := by decide
  rw [e] at h
  rw [h]
  rfl
theorem shr_bound (x : Int) (h0 : 0 ≤ x) (h1 : x ≤ 255) (s : Nat) : 0 ≤ x / 2 ^ s ∧ x / 2 ^ s < 256 := by
  have hp : (0 : Int) < 2 ^ s := Int.pow_pos (by decide)
  have h2 := Int.ediv_nonneg h0 (Int.le_of_lt hp)
  have h3 := Int.ediv_le_self (2 ^ s) h0
  omega
theorem ret_int {k : IntKind} {a b : Int} (h : a = b) : Ending.returned (.int k a) = .returned (.int k b) := by rw [h]

theorem shr_small (x : Int) (h0 : 0 ≤ x) (h1 : x < 65536) (s : Nat) : 0 ≤ x / 2 ^ s ∧ x / 2 ^ s < 65536 := by
  have hp : (0 : Int) < 2 ^ s := Int.pow_pos (by decide)
  have h2 := Int.ediv_nonneg h0 (Int.le_of_lt hp)
  have h3 := Int.ediv_le_self (2 ^ s) h0
  omega

theorem pow_small (x : Int) (h1 : x ≤ 16) : (1 : Int) ≤ 2 ^ x.toNat ∧ (2 : Int) ^ x.toNat ≤ 65536 := by
  have h : x.toNat ≤ 16 := by omega
  generalize x.toNat = m at h
  have h3 : (2 : Nat) ^ m ≤ 2 ^ 16 := Nat.pow_le_pow_right (by omega) h
  have h4 : 1 ≤ (2 : Nat) ^ m := Nat.one_le_two_pow
  have e : ((2 : Nat) ^ m : Int) = (2 : Int) ^ m := by norm_cast
  omega
theorem shl_sub (x : Int) (h1 : x ≤ 16) : wrap64 (wrap64 (2 ^ x.toNat) - 1) = 2 ^ x.toNat - 1 := by
  have h := pow_small x h1
  rw [IntWalk.wrap64_in (2 ^ x.toNat) (by omega), IntWalk.wrap64_in (2 ^ x.toNat - 1) (by omega)]

end Go.Proofs.Ytkefpjbdkhifhaa

namespace Go.Proofs.Ytkefpjbdkhifhaa

/-- A list that is laid row by row, w numbers a row. -/
def gridL (w h : Nat) (f : Nat → Nat → Int) : List Int := (List.range (w * h)).map fun i => f (i / w) (i % w)
theorem gridL_len (w h : Nat) (f : Nat → Nat → Int) : (gridL w h f).length = w * h := by simp [gridL]
theorem gridL_at {w h : Nat} (f : Nat → Nat → Int) {y x : Nat} (hy : y < h) (hx : x < w) : (gridL w h f).getD (y * w + x) 0 = f y x := by
  have hlt : y * w + x < w * h := by
    have : (y + 1) * w ≤ h * w := Nat.mul_le_mul_right w hy
    rw [Nat.add_mul, Nat.one_mul] at this
    rw [Nat.mul_comm w h]
    omega
  have h1 : (y * w + x) / w = y := by
    rw [Nat.add_comm, Nat.add_mul_div_right _ _ (by omega), Nat.div_eq_of_lt hx, Nat.zero_add]
  have h2 : (y * w + x) % w = x := by
    rw [Nat.add_comm, Nat.add_mul_mod_self_right, Nat.mod_eq_of_lt hx]
  simp [gridL, hlt, h1, h2]
theorem gridL_congr {w h : Nat} {f g : Nat → Nat → Int} (hfg : ∀ y x, y < h → x < w → f y x = g y x) : gridL w h f = gridL w h g := by
  unfold gridL
  refine List.map_congr_left (fun i hi => ?_)
  have hi' : i < w * h := List.mem_range.1 hi
  have hw : 0 < w := Nat.pos_of_ne_zero (fun e => by subst e; simp at hi')
  exact hfg _ _ (Nat.div_lt_of_lt_mul hi') (Nat.mod_lt _ hw)
/-- Each list of so many numbers is laid so. -/
theorem gridL_self {w h : Nat} {L : List Int} (hl : L.length = w * h) : gridL w h (fun y x => L.getD (y * w + x) 0) = L := by
  refine List.ext_getElem (by rw [gridL_len, hl]) (fun i h1 h2 => ?_)
  have hw : 0 < w := Nat.pos_of_ne_zero (fun e => by subst e; simp [gridL] at h1)
  have e : i / w * w + i % w = i := Nat.div_add_mod' i w
  simp [gridL, e, h2]
theorem gridL_take (w h : Nat) (f : Nat → Nat → Int) (i : Nat) (hi : i < w * h) : (gridL w h f).take (i + 1) = (gridL w h f).take i ++ [f (i / w) (i % w)] := by
  rw [List.take_succ_eq_append_getElem (by rw [gridL_len]; exact hi)]
  simp [gridL]

/-- Sides that a plane may have. -/
def sidesB (w h : Int) : Bool := decide (1 ≤ w ∧ w ≤ 1024) && decide (1 ≤ h ∧ h ≤ 1024) && decide (w * h ≤ 131072)
def planeB (L : List Int) (w h : Int) : Bool := sidesB w h && decide ((L.length : Int) = w * h) && L.all fun x => decide (0 ≤ x ∧ x ≤ 4095)
structure Plane (L : List Int) (w h : Nat) : Prop where
  w1 : 1 ≤ w
  h1 : 1 ≤ h
  len : L.length = w * h
  num : ∀ x ∈ L, 0 ≤ x ∧ x ≤ 4095

/-- The mean, rounded, halves away from 0 (no number is below 0 here). -/
def meanI (s : Int) (n : Nat) : Int := (2 * s + n) / (2 * n)
theorem mean_same (v : Int) (n : Nat) (hn : 0 < n) : meanI (n * v) n = v := by
  unfold meanI
  have e : 2 * ((n : Int) * v) + n = n + (2 * n) * v := by rw [Int.mul_assoc]; omega
  rw [e, Int.add_mul_ediv_left _ _ (by omega), Int.ediv_eq_zero_of_lt (by omega) (by omega), Int.zero_add]
theorem mean_le {s hi : Int} {n : Nat} (hn : 0 < n) (h : s ≤ n * hi) : meanI s n ≤ hi := by
  have h1 : meanI s n ≤ meanI (n * hi) n := by
    unfold meanI
    exact Int.ediv_le_ediv (by omega) (by omega)
  rw [mean_same hi n hn] at h1
  exact h1
theorem mean_ge {s lo : Int} {n : Nat} (hn : 0 < n) (h : n * lo ≤ s) : lo ≤ meanI s n := by
  have h1 : meanI (n * lo) n ≤ meanI s n := by
    unfold meanI
    exact Int.ediv_le_ediv (by omega) (by omega)
  rw [mean_same lo n hn] at h1
  exact h1

/-- From where on, and up to where, the k-th of n is taken of m. -/
def fromN (m n k : Nat) : Nat := k * m / n
def toN (m n k : Nat) : Nat := ((k + 1) * m + n - 1) / n
theorem from_to {m n k : Nat} (hn : 1 ≤ n) (hm : 1 ≤ m) : fromN m n k < toN m n k := by
  unfold fromN toN
  have hd := Nat.div_mul_le_self (k * m) n
  have h2 : (k * m / n + 1) * n ≤ (k + 1) * m + n - 1 := by
    rw [Nat.add_mul, Nat.one_mul, Nat.add_mul, Nat.one_mul]
    omega
  exact Nat.lt_of_lt_of_le (Nat.lt_succ_self _) ((Nat.le_div_iff_mul_le (by omega)).2 h2)
theorem to_le {m n k : Nat} (hk : k < n) : toN m n k ≤ m := by
  unfold toN
  have h1 : (k + 1) * m ≤ n * m := Nat.mul_le_mul_right m hk
  have hn : 0 < n := by omega
  have e : n * (m + 1) = n * m + n := by rw [Nat.mul_add, Nat.mul_one]
  have h2 : (k + 1) * m + n - 1 < n * (m + 1) := by
    rw [e]
    omega
  exact Nat.le_of_lt_succ (Nat.div_lt_of_lt_mul h2)

/-- The sum over a row's part, and over rows. -/
def sumK (L : List Int) (at0 a : Nat) : Nat → Int
  | 0 => 0
  | j + 1 => sumK L at0 a j + L.getD (at0 + (a + j)) 0
def sumR (L : List Int) (w r0 a c : Nat) : Nat → Int
  | 0 => 0
  | j + 1 => sumR L w r0 a c j + sumK L ((r0 + j) * w) a c
def shrinkF (L : List Int) (w h nw nh y x : Nat) : Int :=
  meanI (sumR L w (fromN h nh y) (fromN w nw x) (toN w nw x - fromN w nw x) (toN h nh y - fromN h nh y)) ((toN h nh y - fromN h nh y) * (toN w nw x - fromN w nw x))
def shrinkL (L : List Int) (w h nw nh : Nat) : List Int := gridL nw nh (shrinkF L w h nw nh)
def growL (L : List Int) (w h nw nh : Nat) : List Int := gridL nw nh fun y x => L.getD (y * h / nh * w + x * w / nw) 0
def padL (L : List Int) (w h nw nh : Nat) : List Int := gridL nw nh fun y x => L.getD (min y (h - 1) * w + min x (w - 1)) 0
def cropL (L : List Int) (w nw nh : Nat) : List Int := gridL nw nh fun y x => L.getD (y * w + x) 0
def cutL (L : List Int) (w h : Nat) : List (List Int) := (List.range (h / 8 * (w / 8))).map fun j => (List.range 64).map fun i => L.getD ((8 * (j / (w / 8)) + i / 8) * w + 8 * (j % (w / 8)) + i % 8) 0
def joinL (B : List (List Int)) (w h : Nat) : List Int := gridL w h fun y x => (B.getD (y / 8 * (w / 8) + x / 8) []).getD (y % 8 * 8 + x % 8) 0

theorem sumK_const {L : List Int} {at0 a : Nat} {v : Int} : ∀ c, (∀ j, j < c → L.getD (at0 + (a + j)) 0 = v) → sumK L at0 a c = c * v
  | 0, _ => by simp [sumK]
  | c + 1, h => by
    rw [sumK, sumK_const c (fun j hj => h j (by omega)), h c (by omega)]
    push_cast
    rw [Int.add_mul, Int.one_mul]
theorem sumR_const {L : List Int} {w r0 a c : Nat} {v : Int} : ∀ r, (∀ i j, i < r → j < c → L.getD ((r0 + i) * w + (a + j)) 0 = v) → sumR L w r0 a c r = ((r * c : Nat) : Int) * v
  | 0, _ => by simp [sumR]
  | r + 1, h => by
    rw [sumR, sumR_const r (fun i j hi hj => h i j (by omega) hj), sumK_const c (fun j hj => h r j (by omega) hj), Nat.add_mul, Nat.one_mul]
    push_cast
    rw [Int.add_mul]
theorem sumK_in {L : List Int} {at0 a : Nat} {lo hi : Int} : ∀ c, (∀ j, j < c → lo ≤ L.getD (at0 + (a + j)) 0 ∧ L.getD (at0 + (a + j)) 0 ≤ hi) → c * lo ≤ sumK L at0 a c ∧ sumK L at0 a c ≤ c * hi
  | 0, _ => by simp [sumK]
  | c + 1, h => by
    have h1 := sumK_in c (fun j hj => h j (by omega))
    have h2 := h c (by omega)
    rw [sumK]
    push_cast
    rw [Int.add_mul, Int.one_mul, Int.add_mul, Int.one_mul]
    omega
theorem sumR_in {L : List Int} {w r0 a c : Nat} {lo hi : Int} : ∀ r, (∀ i j, i < r → j < c → lo ≤ L.getD ((r0 + i) * w + (a + j)) 0 ∧ L.getD ((r0 + i) * w + (a + j)) 0 ≤ hi) → ((r * c : Nat) : Int) * lo ≤ sumR L w r0 a c r ∧ sumR L w r0 a c r ≤ ((r * c : Nat) : Int) * hi
  | 0, _ => by simp [sumR]
  | r + 1, h => by
    have h1 := sumR_in r (fun i j hi hj => h i j (by omega) hj)
    have h2 := sumK_in (L := L) (at0 := (r0 + r) * w) (a := a) c (fun j hj => h r j (by omega) hj)
    rw [sumR, Nat.add_mul, Nat.one_mul]
    push_cast at h1 h2 ⊢
    rw [Int.add_mul, Int.add_mul]
    omega
/-- Where a plane's rows and columns that are taken lie. -/
theorem in_plane {L : List Int} {w h : Nat} (hl : L.length = w * h) {r k : Nat} (hr : r < h) (hk : k < w) : ∃ hi : r * w + k < L.length, L.getD (r * w + k) 0 = L[r * w + k] := by
  have hlt : r * w + k < L.length := by
    have : (r + 1) * w ≤ h * w := Nat.mul_le_mul_right w hr
    rw [Nat.add_mul, Nat.one_mul] at this
    rw [hl, Nat.mul_comm w h]
    omega
  exact ⟨hlt, by simp [hlt]⟩
/-- No sample of a smaller plane is outside of those it comes from. -/
theorem shrink_in {L : List Int} {w h nw nh : Nat} (hl : L.length = w * h) (hw : 1 ≤ w) (hh : 1 ≤ h) {lo hi : Int} (hb : ∀ v ∈ L, lo ≤ v ∧ v ≤ hi) {y x : Nat} (hy : y < nh) (hx : x < nw) : lo ≤ shrinkF L w h nw nh y x ∧ shrinkF L w h nw nh y x ≤ hi := by
  have hr := from_to (m := h) (n := nh) (k := y) (by omega) hh
  have hk := from_to (m := w) (n := nw) (k := x) (by omega) hw
  have tr := to_le (m := h) hy
  have tk := to_le (m := w) hx
  have h1 := sumR_in (L := L) (w := w) (r0 := fromN h nh y) (a := fromN w nw x) (c := toN w nw x - fromN w nw x) (lo := lo) (hi := hi) (toN h nh y - fromN h nh y) (fun i j hi' hj => by
    obtain ⟨hlt, e⟩ := in_plane hl (r := fromN h nh y + i) (k := fromN w nw x + j) (by omega) (by omega)
    rw [e]
    exact hb _ (List.getElem_mem hlt))
  have hpos : 0 < (toN h nh y - fromN h nh y) * (toN w nw x - fromN w nw x) := Nat.mul_pos (by omega) (by omega)
  exact ⟨mean_ge hpos h1.1, mean_le hpos h1.2⟩
/-- A plane that was made greater by whole numbers of times is got back. -/
theorem grow_back {L : List Int} {w h a b : Nat} (hl : L.length = w * h) (hw : 1 ≤ w) (hh : 1 ≤ h) (ha : 1 ≤ a) (hb : 1 ≤ b) : shrinkL (growL L w h (a * w) (b * h)) (a * w) (b * h) w h = L := by
  have e1 : ∀ y, fromN (b * h) h y = y * b := fun y => by
    unfold fromN
    rw [← Nat.mul_assoc, Nat.mul_div_cancel _ (by omega)]
  have e2 : ∀ y, toN (b * h) h y = (y + 1) * b := fun y => by
    unfold toN
    rw [← Nat.mul_assoc, Nat.add_sub_assoc (by omega), Nat.add_comm, Nat.add_mul_div_right _ _ (by omega), Nat.div_eq_of_lt (by omega), Nat.zero_add]
  have e3 : ∀ x, fromN (a * w) w x = x * a := fun x => by
    unfold fromN
    rw [← Nat.mul_assoc, Nat.mul_div_cancel _ (by omega)]
  have e4 : ∀ x, toN (a * w) w x = (x + 1) * a := fun x => by
    unfold toN
    rw [← Nat.mul_assoc, Nat.add_sub_assoc (by omega), Nat.add_comm, Nat.add_mul_div_right _ _ (by omega), Nat.div_eq_of_lt (by omega), Nat.zero_add]
  unfold shrinkL
  rw [← gridL_self hl]
  refine gridL_congr (fun y x hy hx => ?_)
  rw [gridL_self hl]
  unfold shrinkF
  rw [e1, e2, e3, e4]
  have ha' : (x + 1) * a - x * a = a := by rw [Nat.add_mul, Nat.one_mul]; omega
  have hb' : (y + 1) * b - y * b = b := by rw [Nat.add_mul, Nat.one_mul]; omega
  rw [ha', hb', sumR_const (v := L.getD (y * w + x) 0) b (fun i j hi hj => ?_), mean_same _ _ (Nat.mul_pos (by omega) (by omega))]
  have hY : y * b + i < b * h := by
    have : (y + 1) * b ≤ h * b := Nat.mul_le_mul_right b hy
    rw [Nat.add_mul, Nat.one_mul] at this
    rw [Nat.mul_comm b h]
    omega
  have hX : x * a + j < a * w := by
    have : (x + 1) * a ≤ w * a := Nat.mul_le_mul_right a hx
    rw [Nat.add_mul, Nat.one_mul] at this
    rw [Nat.mul_comm a w]
    omega
  unfold growL
  rw [gridL_at _ hY hX]
  have q1 : (y * b + i) * h / (b * h) = y := by
    rw [Nat.mul_div_mul_right _ _ (by omega), Nat.add_comm, Nat.add_mul_div_right _ _ (by omega), Nat.div_eq_of_lt hi, Nat.zero_add]
  have q2 : (x * a + j) * w / (a * w) = x := by
    rw [Nat.mul_div_mul_right _ _ (by omega), Nat.add_comm, Nat.add_mul_div_right _ _ (by omega), Nat.div_eq_of_lt hj, Nat.zero_add]
  rw [q1, q2]
/-- A plane with more at its edges is got back. -/
theorem pad_back {L : List Int} {w h nw nh : Nat} (hl : L.length = w * h) (hw : w ≤ nw) (hh : h ≤ nh) : cropL (padL L w h nw nh) nw w h = L := by
  unfold cropL
  conv => rhs; rw [← gridL_self hl]
  refine gridL_congr (fun y x hy hx => ?_)
  unfold padL
  rw [gridL_at _ (by omega) (by omega), Nat.min_eq_left (by omega), Nat.min_eq_left (by omega)]
/-- A plane is got back from its blocks. -/
theorem cut_back {L : List Int} {w h : Nat} (hl : L.length = w * h) (hw : w % 8 = 0) (hh : h % 8 = 0) : joinL (cutL L w h) w h = L := by
  unfold joinL
  conv => rhs; rw [← gridL_self hl]
  refine gridL_congr (fun y x hy hx => ?_)
  have hx8 : x / 8 < w / 8 := by omega
  have hy8 : y / 8 < h / 8 := by omega
  have hj : y / 8 * (w / 8) + x / 8 < h / 8 * (w / 8) := by
    have : (y / 8 + 1) * (w / 8) ≤ h / 8 * (w / 8) := Nat.mul_le_mul_right _ hy8
    rw [Nat.add_mul, Nat.one_mul] at this
    omega
  have h1 : (y / 8 * (w / 8) + x / 8) / (w / 8) = y / 8 := by
    rw [Nat.add_comm, Nat.add_mul_div_right _ _ (by omega), Nat.div_eq_of_lt hx8, Nat.zero_add]
  have h2 : (y / 8 * (w / 8) + x / 8) % (w / 8) = x / 8 := by
    rw [Nat.add_comm, Nat.add_mul_mod_self_right, Nat.mod_eq_of_lt hx8]
  have hi : y % 8 * 8 + x % 8 < 64 := by omega
  have e1 : (cutL L w h).getD (y / 8 * (w / 8) + x / 8) [] = (List.range 64).map fun i => L.getD ((8 * (y / 8) + i / 8) * w + 8 * (x / 8) + i % 8) 0 := by
    simp [cutL, hj, h1, h2]
  rw [e1]
  have e2 : ((List.range 64).map fun i => L.getD ((8 * (y / 8) + i / 8) * w + 8 * (x / 8) + i % 8) 0).getD (y % 8 * 8 + x % 8) 0 = L.getD ((8 * (y / 8) + (y % 8 * 8 + x % 8) / 8) * w + 8 * (x / 8) + (y % 8 * 8 + x % 8) % 8) 0 := by
    simp [hi]
  rw [e2]
  have h3 : (y % 8 * 8 + x % 8) / 8 = y % 8 := by omega
  have h4 : (y % 8 * 8 + x % 8) % 8 = x % 8 := by omega
  rw [h3, h4, show 8 * (y / 8) + y % 8 = y by omega, Nat.add_assoc, show 8 * (x / 8) + x % 8 = x by omega]
end Go.Proofs.Ytkefpjbdkhifhaa

namespace Go.Proofs.Ytkefpjbdkhifhaa
open Go.RowKit

theorem Try.info3 : (Try.prog.info? 3).map (fun i => (i.zero, i.size, i.bytes)) = some (some (.int .i64 0), 1, 8) := by kernel_rfl

set_option maxHeartbeats 400000 in
theorem toIntS (ao : Option Addr) (n cap : Nat) (zs : List Int) (w : World) (hr : Rd .i64 w ao n zs) (hn : n ≤ 4194304) :
    Calls Try.prog 30 #[.slice ao n cap] w fun e w' => e = .returned (.slice (some ⟨w.heap.size, 0, none⟩) n n) ∧
      w'.ownsRow w.heap.size 3 1 (.slice (some ⟨w.heap.size, 0, none⟩) n n) n (zs.map (Value.int .i64)) ∧ w.grownBy w' none := by
  obtain ⟨i0, hi, hz0, hz1, hz2⟩ := info_parts Try.info3
  obtain ⟨hl, hc⟩ := hr
  go_enter Try.func30, Try.ntmps30
  go_wp2_with (at_make; refine wpList_make_full _ rfl _ _ 24 rfl w.heap.size 3 i0 (.int .i64 0) 1 Try.underlying24 hi hz0 hz1 .i64 .i64 _ _ n rfl rfl rfl rfl (by rw [hz2]; omega) (by unfold maxLen; omega) (Nat.le_refl _) ?_)
  intro w1 hown hgrow
  have hown0 : w1.ownsRow w.heap.size 3 1 (.slice (some ⟨w.heap.size, 0, none⟩) n n) n (part .i64 zs 0) := by
    rw [part_zero, hl]
    have e : (madeCells #[Value.int .i64 0] n).toList = List.replicate n (.int .i64 0) := toList_madeCells_one _ _
    rw [← e]; exact hown
  clear hown hi hz0 hz1 hz2
  go_wp2
  go_loopw [4] (fun i wr => ∃ k : Nat, k ≤ n ∧ i = .int .i64 k ∧ wr.ownsRow w.heap.size 3 1 (.slice (some ⟨w.heap.size, 0, none⟩) n n) n (part .i64 zs k) ∧ w.grownBy wr none) (fun i _ => n - (intOf i).toNat)
  case atStart => exact ⟨0, Nat.zero_le _, rfl, hown0, hgrow⟩
  case round =>
    obtain ⟨k, hk, rfl, hownk, hgk⟩ := hrel
    clear hown0 hgrow
    by_cases hlt : k < n
    · obtain ⟨b, off, rfl, hcb⟩ := hc k hlt
      have hcell := hgk.cell hcb (by simp)
      have hfro := hownk.frozenAt k
      have hold : ∃ u, wr.cell? ⟨w.heap.size, k, none⟩ = some u := by rw [hownk.cellAt k (by omega)]; exact ⟨_, List.getElem?_eq_getElem (by rw [hownk.1]; omega)⟩
      obtain ⟨u, hu⟩ := hold
      have hst := hownk.stored k (.int .i64 (zs.getD k 0))
      rw [part_set .i64 zs k (by omega)] at hst
      generalize zs.getD k 0 = x at hcell hst
      have hg' := grown_new hgk hst.2 (by intro g e; simp at e; omega)
      have HS := hst.1
      clear hst hownk hgk hc
      go_wp2
      go_roundw
      case rel => exact ⟨k + 1, by omega, by go_num, HS, hg'⟩
      case measure => simp [intOf]; omega
    · have hkn : k = n := by omega
      subst hkn
      go_wp2
      go_ret
      rw [← hl, part_all, hl] at hownk
      exact ⟨rfl, hownk, hgk⟩

set_option maxHeartbeats 400000 in
theorem eqIntS (ao bo : Option Addr) (n cap cap' : Nat) (zs : List Int) (w : World) (hx : Rd .i64 w ao n zs) (hy : Rd .i64 w bo n zs) (hn : n ≤ 4194304) :
    Calls Try.prog 32 #[.slice ao n cap, .slice bo n cap'] w fun e w' => e = .returned (.bool true) ∧ w.grownBy w' none := by
  obtain ⟨hl, hc⟩ := hx
  obtain ⟨_, hd⟩ := hy
  have hne : ((n : Int) != n) = false := by simp
  go_enter Try.func32, Try.ntmps32
  go_wp2
  go_loopw [5] (fun i wr => ∃ k q : Nat, k ≤ n ∧ i = .int .i64 k ∧ wr = w.drewN q) (fun i _ => n - (intOf i).toNat)
  case atStart => exact ⟨0, 0, Nat.zero_le _, rfl, rfl⟩
  case round =>
    obtain ⟨k, q, hk, rfl, rfl⟩ := hrel
    by_cases hlt : k < n
    · obtain ⟨b, off, rfl, hcb⟩ := hc k hlt
      obtain ⟨b', off', rfl, hcd⟩ := hd k hlt
      generalize zs.getD k 0 = x at hcb hcd
      have hik : (k : Int) < (n : Int) := by omega
      clear hc hd
      go_wp2
      go_quiet (fail)
      go_wp2
      go_roundw
      case rel => exact ⟨k + 1, _, by omega, by go_num, rfl⟩
      case measure => simp [intOf]; omega
    · go_wp2
      go_ret
      exact ⟨rfl, grown_drewN (World.grownBy.refl _ _) _⟩

set_option maxHeartbeats 400000 in
theorem markIntS (ao : Option Addr) (n cap base : Nat) (xs : List Value) (k0 : Int) (w : World) (ho : w.ownsRow base 3 1 (.slice ao n cap) n xs) (hn : n ≤ 4194304) (h0 : 0 ≤ k0) (h1 : k0 ≤ 1073741824) :
    Calls Try.prog 33 #[.slice ao n cap, .int .i64 k0] w fun e w' => e = .returned (.int .i64 (k0 + n)) ∧
      w'.ownsRow base 3 1 (.slice ao n cap) n ((marks .i64 k0 n).map (Value.int .i64)) ∧ w.grownBy w' (Value.slice ao n cap).ownBlock := by
  go_enter Try.func33, Try.ntmps33
  go_wp2
  go_loopw [1, 5] (fun c i wr => ∃ k : Nat, k ≤ n ∧ i = .int .i64 k ∧ c = .int .i64 (k0 + k) ∧ wr.ownsRow base 3 1 (.slice ao n cap) n (over .i64 k0 xs k) ∧ w.grownBy wr (Value.slice ao n cap).ownBlock) (fun _ i _ => n - (intOf i).toNat)
  case atStart => exact ⟨0, Nat.zero_le _, rfl, by go_num, by rw [over_zero]; exact ho, World.grownBy.refl _ _⟩
  case round =>
    obtain ⟨k, hk, rfl, rfl, hownk, hgk⟩ := hrel
    have hxl : xs.length = n := by have := ho.1; omega
    clear ho
    by_cases hlt : k < n
    · obtain ⟨g, rfl, _, _⟩ := own_at hownk (by omega)
      have hfro := hownk.frozenAt k
      have hold : ∃ u, wr.cell? ⟨g, k, none⟩ = some u := by rw [hownk.cellAt k (by omega)]; exact ⟨_, List.getElem?_eq_getElem (by rw [hownk.1]; omega)⟩
      obtain ⟨u, hu⟩ := hold
      have hst := hownk.stored k (.int .i64 (IntKind.i64.wrap (k0 + k)))
      rw [over_set .i64 k0 xs k (by omega)] at hst
      rw [i64_in (k0 + k) (by omega)] at hst
      have hg' := grown_trans hgk hst.2
      have HS := hst.1
      clear hst hownk hgk
      go_wp2
      go_roundw
      case rel => exact ⟨k + 1, by omega, by go_num, by go_num, HS, hg'⟩
      case measure => simp [intOf]; omega
    · have hkn : k = n := by omega
      subst hkn
      go_wp2
      go_ret
      rw [← hxl, over_all, hxl] at hownk
      exact ⟨rfl, hownk, hgk⟩

set_option maxHeartbeats 400000 in
theorem heldIntS (ao : Option Addr) (n cap : Nat) (k0 : Int) (w : World) (hr : Rd .i64 w ao n (marks .i64 k0 n)) (hn : n ≤ 4194304) (h0 : 0 ≤ k0) (h1 : k0 ≤ 1073741824) :
    Calls Try.prog 34 #[.slice ao n cap, .int .i64 k0] w fun e w' => e = .returned (.int .i64 (k0 + n)) ∧ w.grownBy w' none := by
  obtain ⟨hl, hc⟩ := hr
  go_enter Try.func34, Try.ntmps34
  go_wp2
  go_loop [1, 5] (fun c i => ∃ k : Nat, k ≤ n ∧ i = .int .i64 k ∧ c = .int .i64 (k0 + k)) (fun _ i => n - (intOf i).toNat)
  case atStart => exact ⟨0, Nat.zero_le _, rfl, by go_num⟩
  case round =>
    obtain ⟨k, hk, rfl, rfl⟩ := hrel
    by_cases hlt : k < n
    · obtain ⟨b, off, rfl, hcb⟩ := hc k hlt
      rw [marks_get .i64 k0 n k hlt] at hcb
      clear hc
      go_wp2
      go_round
      case rel => exact ⟨k + 1, by omega, by go_num, by go_num⟩
      case measure => simp [intOf]; omega
    · have hkn : k = n := by omega
      subst hkn
      go_wp2
      go_ret
      exact ⟨rfl, World.grownBy.refl _ _⟩

end Go.Proofs.Ytkefpjbdkhifhaa

namespace Go.Proofs.Ytkefpjbdkhifhaa
open Go.RowKit

/-- The cells of n structs of k cells each: cell j of struct i is f i j. -/
def rowsK (n k : Nat) (f : Nat → Nat → Value) : List Value := (List.range (n * k)).map (fun c => f (c / k) (c % k))
theorem rowsK_len (n k : Nat) (f : Nat → Nat → Value) : (rowsK n k f).length = n * k := by simp [rowsK]
theorem cell_place {k i j : Nat} (hj : j < k) : (i * k + j) / k = i ∧ (i * k + j) % k = j := by
  constructor
  · rw [Nat.mul_comm, Nat.mul_add_div (by omega), Nat.div_eq_of_lt hj, Nat.add_zero]
  · rw [Nat.mul_comm, Nat.mul_add_mod, Nat.mod_eq_of_lt hj]
theorem place_lt {n k i j : Nat} (hi : i < n) (hj : j < k) : i * k + j < n * k := by
  have h : (i + 1) * k ≤ n * k := Nat.mul_le_mul_right k hi
  rw [Nat.add_mul, Nat.one_mul] at h
  omega
theorem rowsK_get (n k : Nat) (f : Nat → Nat → Value) (i j : Nat) (hi : i < n) (hj : j < k) : (rowsK n k f)[i * k + j]? = some (f i j) := by
  unfold rowsK
  rw [List.getElem?_map, List.getElem?_range (place_lt hi hj), Option.map_some, (cell_place hj).1, (cell_place hj).2]
theorem rowsK_congr {n k : Nat} {f g : Nat → Nat → Value} (h : ∀ i j, i < n → j < k → f i j = g i j) : rowsK n k f = rowsK n k g := by
  unfold rowsK
  apply List.map_congr_left
  intro c hc
  have hc' := List.mem_range.1 hc
  have hk : 0 < k := by
    rcases Nat.eq_zero_or_pos k with e | e
    · subst e; simp at hc'
    · exact e
  exact h _ _ (Nat.div_lt_of_lt_mul (by rw [Nat.mul_comm]; exact hc')) (Nat.mod_lt _ hk)
/-- One cell changed. -/
theorem rowsK_set (n k : Nat) (f : Nat → Nat → Value) (i j : Nat) (u : Value) (hj : j < k) : (rowsK n k f).set (i * k + j) u = rowsK n k (fun a b => if a = i ∧ b = j then u else f a b) := by
  apply List.ext_getElem?
  intro c
  rw [List.getElem?_set]
  by_cases hc : c < n * k
  · have hk : 0 < k := by omega
    have hd : c = (c / k) * k + c % k := by have := Nat.div_add_mod c k; rw [Nat.mul_comm] at this; omega
    have hi' : c / k < n := Nat.div_lt_of_lt_mul (by rw [Nat.mul_comm]; exact hc)
    have hm : c % k < k := Nat.mod_lt _ hk
    have e1 : (rowsK n k f)[c]? = some (f (c / k) (c % k)) := by
      have := rowsK_get n k f (c / k) (c % k) hi' hm
      rwa [← hd] at this
    have e2 : (rowsK n k (fun a b => if a = i ∧ b = j then u else f a b))[c]? = some (if c / k = i ∧ c % k = j then u else f (c / k) (c % k)) := by
      have := rowsK_get n k (fun a b => if a = i ∧ b = j then u else f a b) (c / k) (c % k) hi' hm
      rwa [← hd] at this
    rw [e1, e2, rowsK_len]
    by_cases h : i * k + j = c
    · subst h
      rw [if_pos rfl, if_pos hc, if_pos (cell_place hj)]
    · rw [if_neg h, if_neg (fun e => h (by rw [← e.1, ← e.2]; exact hd.symm))]
  · rw [List.getElem?_eq_none (by rw [rowsK_len]; omega), List.getElem?_eq_none (by rw [rowsK_len]; omega), rowsK_len]
    split
    · rw [if_neg (by omega)]
    · rfl
/-- What is made anew. -/
theorem madeK (z : Array Value) (n : Nat) (hz : 0 < z.size) : (madeCells z (n * z.size)).toList = rowsK n z.size (fun _ b => z.getD b default) := by
  apply List.ext_getElem?
  intro c
  by_cases hc : c < n * z.size
  · have hm : c % z.size < z.size := Nat.mod_lt _ hz
    simp [madeCells, rowsK, hc, hm]
  · simp [madeCells, rowsK, hc]

theorem own_sameAt {w w' : World} {base : Nat} {e : TypeId} {size : Nat} {v : Value} {n : Nat} {xs : List Value} (h : w.ownsRow base e size v n xs) (hs : ∀ g, v.ownBlock = some g → w'.heap[g]? = w.heap[g]?) : w'.ownsRow base e size v n xs := by
  obtain ⟨h1, h2⟩ := h
  refine ⟨h1, ?_⟩
  rcases h2 with h2 | ⟨g, cap, cur, hv, hg, hh, r⟩
  · exact .inl h2
  · exact .inr ⟨g, cap, cur, hv, hg, by rw [hs g (by rw [hv]; rfl)]; exact hh, r⟩

/-- A world that is as it was outside of some rows, told by their numbers. -/
structure Kp (lo hi : Nat) (w w' : World) : Prop where
  os : w'.os = w.os
  tape : w'.tape = w.tape
  output : w'.output = w.output
  size : w.heap.size ≤ w'.heap.size
  block : ∀ k, k < w.heap.size → (k < lo ∨ hi ≤ k) → w'.heap[k]? = w.heap[k]?
theorem Kp.refl (lo hi : Nat) (w : World) : Kp lo hi w w := ⟨rfl, rfl, rfl, Nat.le_refl _, fun _ _ _ => rfl⟩
theorem Kp.trans {lo hi : Nat} {a b c : World} (h : Kp lo hi a b) (g : Kp lo hi b c) : Kp lo hi a c :=
  ⟨g.os.trans h.os, g.tape.trans h.tape, g.output.trans h.output, Nat.le_trans h.size g.size, fun k hk hr => (g.block k (Nat.lt_of_lt_of_le hk h.size) hr).trans (h.block k hk hr)⟩
theorem Kp.of {lo hi : Nat} {a b : World} {row : Option Nat} (h : a.grownBy b row) (hr : ∀ g, row = some g → lo ≤ g ∧ g < hi) : Kp lo hi a b :=
  ⟨h.os, h.tape, h.output, h.size, fun k hk hk' => h.block k hk (fun e => by have := hr k e.symm; omega)⟩
theorem Kp.new {lo hi : Nat} {a b c : World} (h : a.grownBy b none) (g : Kp lo hi b c) (hlo : a.heap.size ≤ lo) : a.grownBy c none :=
  ⟨g.os.trans h.os, g.tape.trans h.tape, g.output.trans h.output, Nat.le_trans h.size g.size, fun k hk _ => (g.block k (Nat.lt_of_lt_of_le hk h.size) (.inl (by omega))).trans (h.block k hk (by simp))⟩

end Go.Proofs.Ytkefpjbdkhifhaa

namespace Go.Proofs.Ytkefpjbdkhifhaa
open Go.RowKit

theorem grown_atT {a b : World} {g : Nat} {o : Obj} {row : Option Nat} (h : a.grownBy b row) (hg : a.heap[g]? = some o) (hne : row ≠ some g) : b.heap[g]? = some o :=
  (h.block g (Array.getElem?_eq_some_iff.1 hg).1 (fun e => hne e.symm)).trans hg

/-- What may be another one: the blocks of a list, and new ones. -/
structure Wr (F : List Nat) (w w' : World) : Prop where
  os : w'.os = w.os
  tape : w'.tape = w.tape
  output : w'.output = w.output
  size : w.heap.size ≤ w'.heap.size
  block : ∀ k, k < w.heap.size → k ∉ F → w'.heap[k]? = w.heap[k]?
theorem Wr.refl (F : List Nat) (w : World) : Wr F w w := ⟨rfl, rfl, rfl, Nat.le_refl _, fun _ _ _ => rfl⟩
theorem Wr.trans {F : List Nat} {a b c : World} (h : Wr F a b) (g : Wr F b c) : Wr F a c :=
  ⟨g.os.trans h.os, g.tape.trans h.tape, g.output.trans h.output, Nat.le_trans h.size g.size, fun k hk hn => (g.block k (Nat.lt_of_lt_of_le hk h.size) hn).trans (h.block k hk hn)⟩
theorem Wr.mono {F G : List Nat} {a b : World} (h : Wr F a b) (hs : ∀ x ∈ F, x ∈ G) : Wr G a b := ⟨h.os, h.tape, h.output, h.size, fun k hk hn => h.block k hk (fun e => hn (hs k e))⟩
theorem Wr.ofNone {F : List Nat} {a b : World} (h : a.grownBy b none) : Wr F a b := ⟨h.os, h.tape, h.output, h.size, fun k hk _ => h.block k hk (by simp)⟩
theorem Wr.ofRow {F : List Nat} {a b : World} {row : Option Nat} (h : a.grownBy b row) (hr : ∀ g, row = some g → g ∈ F) : Wr F a b :=
  ⟨h.os, h.tape, h.output, h.size, fun k hk hn => h.block k hk (fun e => hn (hr k e.symm))⟩
theorem Wr.toNone {a b : World} (h : Wr [] a b) : a.grownBy b none := ⟨h.os, h.tape, h.output, h.size, fun k hk _ => h.block k hk (by simp)⟩
/-- Seen from a world in which the blocks were not yet. -/
theorem Wr.new {F : List Nat} {B a b : World} (hB : B.grownBy a none) (h : Wr F a b) (hF : ∀ g ∈ F, B.heap.size ≤ g) : B.grownBy b none :=
  ⟨h.os.trans hB.os, h.tape.trans hB.tape, h.output.trans hB.output, Nat.le_trans hB.size h.size, fun k hk _ => (h.block k (Nat.lt_of_lt_of_le hk hB.size) (fun e => by have := hF k e; omega)).trans (hB.block k hk (by simp))⟩

/-- What is read of a row of numbers, and of a row of rows. -/
def RdI (k : IntKind) (w : World) (u : Value) (xs : List Int) : Prop := ∃ ao cap, u = .slice ao xs.length cap ∧ Rd k w ao xs.length xs
def RdR {α : Type} (P : World → Value → α → Prop) (w : World) (v : Value) (L : List α) : Prop :=
  ∃ ao cap, v = .slice ao L.length cap ∧ ∀ i (h : i < L.length), ∃ b off u, ao = some ⟨b, off, none⟩ ∧ w.cell? ⟨b, off + i, none⟩ = some u ∧ P w u L[i]
def StR {α : Type} (P : World → Value → α → Prop) : Prop := ∀ w w' u a, P w u a → w.grownBy w' none → P w' u a
theorem RdI.st (k : IntKind) : StR (RdI k) := fun _ _ _ _ ⟨ao, cap, e, h⟩ g => ⟨ao, cap, e, h.grown g⟩
theorem RdR.st {α : Type} {P : World → Value → α → Prop} (hP : StR P) : StR (RdR P) := fun _ _ _ _ ⟨ao, cap, e, h⟩ g =>
  ⟨ao, cap, e, fun i hi => by obtain ⟨b, off, u, e1, h1, h2⟩ := h i hi; exact ⟨b, off, u, e1, g.cell h1 (by simp), hP _ _ _ _ h2 g⟩⟩

/-- Who owns a row of numbers, and a row of rows: the blocks that they lie in. -/
def blk (v : Value) : List Nat := v.ownBlock.toList
theorem mem_blk {v : Value} {g : Nat} : g ∈ blk v ↔ v.ownBlock = some g := by unfold blk; simp
def OwI (k : IntKind) (e : TypeId) (w : World) (u : Value) (xs : List Int) (F : List Nat) : Prop := w.ownsRow 0 e 1 u xs.length (xs.map (Value.int k)) ∧ F = blk u
def OwR {α : Type} (e : TypeId) (P : World → Value → α → List Nat → Prop) (w : World) (v : Value) (L : List α) (F : List Nat) : Prop :=
  ∃ (us : List Value) (Fs : List (List Nat)), us.length = L.length ∧ Fs.length = L.length ∧ w.ownsRow 0 e 1 v L.length us ∧ (∀ i (h : i < L.length), P w (us.getD i (.slice none 0 0)) L[i] (Fs.getD i [])) ∧ F = blk v ++ Fs.flatten
structure OwOk {α : Type} (P : World → Value → α → List Nat → Prop) : Prop where
  same : ∀ w w' u a F, P w u a F → (∀ g ∈ F, w'.heap[g]? = w.heap[g]?) → P w' u a F
  lt : ∀ w u a F, P w u a F → ∀ g ∈ F, g < w.heap.size
  form : ∀ w u a F, P w u a F → ∃ ao n cap, u = .slice ao n cap
theorem OwOk.wr {α : Type} {P : World → Value → α → List Nat → Prop} (hP : OwOk P) {w w' : World} {u : Value} {a : α} {F G : List Nat} (h : P w u a F) (g : Wr G w w') (hd : ∀ x ∈ F, x ∉ G) : P w' u a F :=
  hP.same w w' u a F h (fun x hx => g.block x (hP.lt w u a F h x hx) (hd x hx))
theorem OwOk.keep {α : Type} {P : World → Value → α → List Nat → Prop} (hP : OwOk P) {w w' : World} {u : Value} {a : α} {F : List Nat} (h : P w u a F) (g : w.grownBy w' none) : P w' u a F :=
  hP.wr h (Wr.ofNone (F := []) g) (fun x _ => by simp)

theorem OwI.ok (k : IntKind) (e : TypeId) : OwOk (OwI k e) :=
  ⟨fun w w' u a F h hs => ⟨own_sameAt h.1 (fun g hg => hs g (by rw [h.2]; exact mem_blk.2 hg)), h.2⟩,
   fun w u a F h g hg => (h.1.lt g (mem_blk.1 (by rw [← h.2]; exact hg))).2,
   fun w u a F h => by obtain ⟨ao, cap, rfl⟩ := own_form h.1; exact ⟨_, _, _, rfl⟩⟩
theorem OwI.rd {k : IntKind} {e : TypeId} {w : World} {u : Value} {xs : List Int} {F : List Nat} (h : OwI k e w u xs F) : RdI k w u xs := by
  obtain ⟨ao, cap, rfl⟩ := own_form h.1
  exact ⟨ao, cap, rfl, own_rd h.1⟩
theorem OwI.nodup {k : IntKind} {e : TypeId} {w : World} {u : Value} {xs : List Int} {F : List Nat} (h : OwI k e w u xs F) : F.Nodup := by
  rw [h.2]; unfold blk; cases u.ownBlock <;> simp
theorem OwI.of {k : IntKind} {e : TypeId} {w : World} {u : Value} {xs : List Int} {base : Nat} (h : w.ownsRow base e 1 u xs.length (xs.map (Value.int k))) : OwI k e w u xs (blk u) := ⟨own_base h (Nat.zero_le _), rfl⟩
theorem OwI.nil (k : IntKind) (e : TypeId) (w : World) : OwI k e w (.slice none 0 0) [] [] := ⟨⟨rfl, .inl ⟨rfl, rfl⟩⟩, rfl⟩

section
variable {α : Type} {e : TypeId} {P : World → Value → α → List Nat → Prop} {w : World} {v : Value} {L : List α} {F : List Nat}
theorem flat_in {Fs : List (List Nat)} {i : Nat} (h : i < Fs.length) : ∀ x ∈ Fs.getD i [], x ∈ Fs.flatten := fun x hx =>
  List.mem_flatten.2 ⟨Fs[i], List.getElem_mem h, by simpa [h] using hx⟩
theorem flat_apart {Fs : List (List Nat)} (h : Fs.flatten.Nodup) {i j : Nat} (hi : i < Fs.length) (hj : j < Fs.length) (hne : i ≠ j) : ∀ x ∈ Fs.getD i [], x ∉ Fs.getD j [] := by
  intro x hx hy
  have hp := (List.pairwise_flatten.1 h).2
  rw [List.pairwise_iff_getElem] at hp
  have hx' : x ∈ Fs[i] := by simpa [hi] using hx
  have hy' : x ∈ Fs[j] := by simpa [hj] using hy
  rcases Nat.lt_or_gt_of_ne hne with hlt | hlt
  · exact hp i j hi hj hlt x hx' x hy' rfl
  · exact hp j i hj hi hlt x hy' x hx' rfl
theorem OwR.ok (hP : OwOk P) : OwOk (OwR e P) := by
  refine ⟨?_, ?_, ?_⟩
  · rintro w w' u a F ⟨us, Fs, h1, h2, h3, h4, rfl⟩ hs
    refine ⟨us, Fs, h1, h2, own_sameAt h3 (fun g hg => hs g (by simp [mem_blk.2 hg])), fun i hi => ?_, rfl⟩
    exact hP.same w w' _ _ _ (h4 i hi) (fun g hg => hs g (by have := flat_in (by omega) g hg; simp [this]))
  · rintro w u a F ⟨us, Fs, h1, h2, h3, h4, rfl⟩ g hg
    rcases List.mem_append.1 hg with hg | hg
    · exact (h3.lt g (mem_blk.1 hg)).2
    · obtain ⟨l, hl, hgl⟩ := List.mem_flatten.1 hg
      obtain ⟨i, hi, rfl⟩ := List.mem_iff_getElem.1 hl
      exact hP.lt w _ _ _ (h4 i (by omega)) g (by simpa [hi] using hgl)
  · rintro w u a F ⟨us, Fs, h1, h2, h3, h4, rfl⟩
    obtain ⟨ao, cap, rfl⟩ := own_form h3
    exact ⟨_, _, _, rfl⟩
theorem OwR.form (h : OwR e P w v L F) : ∃ ao cap, v = .slice ao L.length cap := by
  obtain ⟨us, Fs, _, _, h3, _⟩ := h
  exact own_form h3
theorem OwR.rd {Q : World → Value → α → Prop} (hPQ : ∀ w u a F, P w u a F → Q w u a) (h : OwR e P w v L F) : RdR Q w v L := by
  obtain ⟨us, Fs, h1, h2, h3, h4, rfl⟩ := h
  obtain ⟨ao, cap, rfl⟩ := own_form h3
  refine ⟨ao, cap, rfl, fun i hi => ?_⟩
  obtain ⟨g, rfl, _, _⟩ := own_at h3 (by omega)
  refine ⟨g, 0, us.getD i (.slice none 0 0), rfl, ?_, hPQ _ _ _ _ (h4 i hi)⟩
  rw [Nat.zero_add, h3.cellAt i (by omega)]
  simp [show i < us.length by omega]
theorem OwR.nil (e : TypeId) (P : World → Value → α → List Nat → Prop) (w : World) : OwR e P w (.slice none 0 0) [] [] := ⟨[], [], rfl, rfl, ⟨rfl, .inl ⟨rfl, rfl⟩⟩, fun i hi => absurd hi (by simp), rfl⟩
/-- An element of a row that is owned, and what becomes of the row when the element becomes another one. -/
theorem OwR.at (hP : OwOk P) (h : OwR e P w v L F) (hF : F.Nodup) (i : Nat) (hi : i < L.length) : ∃ g cap u Fi, v = .slice (some ⟨g, 0, none⟩) L.length cap ∧ g ∈ F ∧ w.cell? ⟨g, i, none⟩ = some u ∧ P w u L[i] Fi ∧ Fi.Nodup ∧ g ∉ Fi ∧ (∀ x ∈ Fi, x ∈ F) ∧
    ∀ w' a', Wr Fi w w' → P w' u a' Fi → OwR e P w' v (L.set i a') F := by
  obtain ⟨us, Fs, h1, h2, h3, h4, rfl⟩ := h
  obtain ⟨ao, cap, rfl⟩ := own_form h3
  obtain ⟨g, rfl, _, _⟩ := own_at h3 (by omega)
  have hn := List.nodup_append.1 hF
  have hgb : g ∈ blk (Value.slice (some ⟨g, 0, none⟩) L.length cap) := mem_blk.2 rfl
  have hgi : ∀ j, j < L.length → g ∉ Fs.getD j [] := fun j hj hx => hn.2.2 g hgb g (flat_in (by omega) g hx) rfl
  refine ⟨g, cap, us.getD i (.slice none 0 0), Fs.getD i [], rfl, by simp [hgb], ?_, h4 i hi, ?_, hgi i hi, fun x hx => by simp [flat_in (show i < Fs.length by omega) x hx], fun w' a' hw hp => ?_⟩
  · rw [h3.cellAt i (by omega)]
    simp [show i < us.length by omega]
  · have := (List.pairwise_flatten.1 hn.2.1).1 (Fs.getD i []) (by rw [List.getD_eq_getElem?_getD, List.getElem?_eq_getElem (by omega)]; simp)
    exact this
  · refine ⟨us, Fs, by simp [h1], by simp [h2], ?_, fun j hj => ?_, rfl⟩
    · rw [List.length_set]
      exact own_sameAt h3 (fun x hx => hw.block x (h3.lt x hx).2 (by have e9 : g = x := Option.some.inj hx; subst e9; exact hgi i hi))
    · rw [List.length_set] at hj
      by_cases e9 : i = j
      · subst e9; simp; exact hp
      · rw [List.getElem_set_ne e9]
        exact hP.wr (h4 j hj) hw (flat_apart hn.2.1 (by omega) (by omega) (fun e => e9 e.symm))
/-- An element of a row that is owned, and what becomes of the row when the element becomes another one, in other blocks. -/
theorem OwR.turn (hP : OwOk P) (h : OwR e P w v L F) (hF : F.Nodup) (i : Nat) (hi : i < L.length) : ∃ g cap u Fi, v = .slice (some ⟨g, 0, none⟩) L.length cap ∧ w.cell? ⟨g, i, none⟩ = some u ∧ P w u L[i] Fi ∧ Fi.Nodup ∧ (∀ x ∈ Fi, x ∈ F) ∧
    ∀ w' a' Fi', Wr Fi w w' → P w' u a' Fi' → Fi'.Nodup → (∀ x ∈ Fi', x ∈ Fi ∨ x ∉ F) → ∃ F', OwR e P w' v (L.set i a') F' ∧ F'.Nodup ∧ ∀ x ∈ F', x ∈ F ∨ x ∈ Fi' := by
  obtain ⟨us, Fs, h1, h2, h3, h4, rfl⟩ := h
  obtain ⟨ao, cap, rfl⟩ := own_form h3
  obtain ⟨g, rfl, _, _⟩ := own_at h3 (by omega)
  have hn := List.nodup_append.1 hF
  have hgb : g ∈ blk (Value.slice (some ⟨g, 0, none⟩) L.length cap) := mem_blk.2 rfl
  have hgi : ∀ j, j < L.length → g ∉ Fs.getD j [] := fun j hj hx => hn.2.2 g hgb g (flat_in (by omega) g hx) rfl
  refine ⟨g, cap, us.getD i (.slice none 0 0), Fs.getD i [], rfl, ?_, h4 i hi, ?_, fun x hx => by simp [flat_in (show i < Fs.length by omega) x hx], fun w' a' Fi' hw hp hn' hd => ?_⟩
  · rw [h3.cellAt i (by omega)]
    simp [show i < us.length by omega]
  · have := (List.pairwise_flatten.1 hn.2.1).1 (Fs.getD i []) (by rw [List.getD_eq_getElem?_getD, List.getElem?_eq_getElem (by omega)]; simp)
    exact this
  · have hmem : ∀ x, x ∈ (Fs.set i Fi').flatten → x ∈ Fs.flatten ∨ x ∈ Fi' := by
      intro x hx
      obtain ⟨l, hl, hxl⟩ := List.mem_flatten.1 hx
      rcases List.mem_or_eq_of_mem_set hl with hl | rfl
      · exact .inl (List.mem_flatten.2 ⟨l, hl, hxl⟩)
      · exact .inr hxl
    have hdj : ∀ j, j < Fs.length → j ≠ i → ∀ x ∈ Fi', x ∉ Fs.getD j [] := fun j hj hji x hx hx2 => by
      rcases hd x hx with h5 | h5
      · exact flat_apart hn.2.1 (by omega) hj (fun e => hji e.symm) x h5 hx2
      · exact h5 (by simp [flat_in hj x hx2])
    have hgF : g ∉ Fi' := fun hx => by
      rcases hd g hx with h5 | h5
      · exact hgi i hi h5
      · exact h5 (by simp [hgb])
    refine ⟨blk (.slice (some ⟨g, 0, none⟩) L.length cap) ++ (Fs.set i Fi').flatten, ⟨us, Fs.set i Fi', by simp [h1], by simp [h2], ?_, fun j hj => ?_, rfl⟩, ?_, ?_⟩
    · rw [List.length_set]
      exact own_sameAt h3 (fun x hx => hw.block x (h3.lt x hx).2 (by have e9 : g = x := Option.some.inj hx; subst e9; exact hgi i hi))
    · rw [List.length_set] at hj
      by_cases e9 : i = j
      · subst e9
        have ef : (Fs.set i Fi').getD i [] = Fi' := by simp [show i < Fs.length by omega]
        rw [ef]
        simp only [List.getElem_set_self]
        exact hp
      · have ef : (Fs.set i Fi').getD j [] = Fs.getD j [] := by simp [e9]
        rw [ef, List.getElem_set_ne e9]
        exact hP.wr (h4 j hj) hw (flat_apart hn.2.1 (by omega) (by omega) (fun e => e9 e.symm))
    · refine List.nodup_append.2 ⟨hn.1, ?_, fun a ha b hb => ?_⟩
      · refine List.pairwise_flatten.2 ⟨fun l hl => ?_, ?_⟩
        · rcases List.mem_or_eq_of_mem_set hl with hl | rfl
          · exact (List.pairwise_flatten.1 hn.2.1).1 l hl
          · exact hn'
        · rw [List.pairwise_iff_getElem]
          intro p q hp1 hq1 hpq x hx y hy
          rw [List.length_set] at hp1 hq1
          rintro rfl
          have hin : ∀ r (hr : r < Fs.length), x ∈ (Fs.set i Fi')[r]'(by simpa using hr) → (r = i ∧ x ∈ Fi') ∨ (r ≠ i ∧ x ∈ Fs.getD r []) := by
            intro r hr hxr
            by_cases e9 : i = r
            · subst e9; simp at hxr; exact .inl ⟨rfl, hxr⟩
            · rw [List.getElem_set_ne e9] at hxr
              exact .inr ⟨fun e => e9 e.symm, by simpa [hr] using hxr⟩
          rcases hin p hp1 hx with ⟨e1, x1⟩ | ⟨e1, x1⟩ <;> rcases hin q hq1 hy with ⟨e2, x2⟩ | ⟨e2, x2⟩
          · omega
          · exact hdj q hq1 e2 x x1 x2
          · exact hdj p hp1 e1 x x2 x1
          · exact flat_apart hn.2.1 hp1 hq1 (by omega) x x1 x2
      · rintro rfl
        rcases hmem a hb with h5 | h5
        · exact hn.2.2 a ha a h5 rfl
        · have e9 : g = a := Option.some.inj (mem_blk.1 ha)
          subst e9
          exact hgF h5
    · intro x hx
      rcases List.mem_append.1 hx with hx | hx
      · exact .inl (by simp [hx])
      · rcases hmem x hx with h5 | h5
        · exact .inl (by simp [h5])
        · exact .inr h5
theorem OwR.slot (h : OwR e P w v L F) (i : Nat) (hi : i < L.length) : ∃ g cap u, v = .slice (some ⟨g, 0, none⟩) L.length cap ∧ w.cell? ⟨g, i, none⟩ = some u ∧ w.frozen? ⟨g, i, none⟩ = false := by
  obtain ⟨us, Fs, h1, h2, h3, h4, rfl⟩ := h
  obtain ⟨ao, cap, rfl⟩ := own_form h3
  obtain ⟨g, rfl, _, _⟩ := own_at h3 (by omega)
  refine ⟨g, cap, us.getD i (.slice none 0 0), rfl, ?_, h3.frozenAt i⟩
  rw [h3.cellAt i (by omega)]
  simp [show i < us.length by omega]
/-- An element of a row that is owned is another value. -/
theorem OwR.put (hP : OwOk P) (h : OwR e P w v L F) (hF : F.Nodup) (i : Nat) (hi : i < L.length) {g : Nat} (hg : v.ownBlock = some g) {u' : Value} {a' : α} {Fi' : List Nat} (hp : P w u' a' Fi') (hn' : Fi'.Nodup) (hd : ∀ x ∈ Fi', x ∉ F) :
    ∃ F', OwR e P (w.setCell ⟨g, i, none⟩ u') v (L.set i a') F' ∧ F'.Nodup ∧ ∀ x ∈ F', x ∈ F ∨ x ∈ Fi' := by
  obtain ⟨us, Fs, h1, h2, h3, h4, rfl⟩ := h
  obtain ⟨ao, cap, rfl⟩ := own_form h3
  obtain ⟨g0, rfl, _, _⟩ := own_at h3 (by omega)
  obtain rfl : g0 = g := Option.some.inj hg
  have hn := List.nodup_append.1 hF
  have hgb : g0 ∈ blk (Value.slice (some ⟨g0, 0, none⟩) L.length cap) := mem_blk.2 rfl
  have hgi : ∀ j, j < L.length → g0 ∉ Fs.getD j [] := fun j hj hx => hn.2.2 g0 hgb g0 (flat_in (by omega) g0 hx) rfl
  have s1 := h3.stored i u'
  have hgF : g0 ∉ Fi' := fun hx => hd g0 hx (by simp [hgb])
  have hw : Wr [g0] w (w.setCell ⟨g0, i, none⟩ u') := Wr.ofRow (grown_set w g0 i u') (fun x hx => by have := Option.some.inj hx; simp [this])
  have hmem : ∀ x, x ∈ (Fs.set i Fi').flatten → x ∈ Fs.flatten ∨ x ∈ Fi' := by
    intro x hx
    obtain ⟨l, hl, hxl⟩ := List.mem_flatten.1 hx
    rcases List.mem_or_eq_of_mem_set hl with hl | rfl
    · exact .inl (List.mem_flatten.2 ⟨l, hl, hxl⟩)
    · exact .inr hxl
  refine ⟨blk (.slice (some ⟨g0, 0, none⟩) L.length cap) ++ (Fs.set i Fi').flatten, ⟨us.set i u', Fs.set i Fi', by simp [h1], by simp [h2], ?_, fun j hj => ?_, rfl⟩, ?_, ?_⟩
  · rw [List.length_set]; exact s1.1
  · rw [List.length_set] at hj
    by_cases e9 : i = j
    · subst e9
      have eu : (us.set i u').getD i (.slice none 0 0) = u' := by simp [show i < us.length by omega]
      have ef : (Fs.set i Fi').getD i [] = Fi' := by simp [show i < Fs.length by omega]
      rw [eu, ef]
      simp only [List.getElem_set_self]
      exact hP.wr hp hw (fun x hx e => by simp at e; subst e; exact hgF hx)
    · have eu : (us.set i u').getD j (.slice none 0 0) = us.getD j (.slice none 0 0) := by simp [e9]
      have ef : (Fs.set i Fi').getD j [] = Fs.getD j [] := by simp [e9]
      rw [eu, ef, List.getElem_set_ne e9]
      exact hP.wr (h4 j hj) hw (fun x hx e => by simp at e; subst e; exact hgi j hj hx)
  · refine List.nodup_append.2 ⟨hn.1, ?_, fun a ha b hb => ?_⟩
    · refine List.pairwise_flatten.2 ⟨fun l hl => ?_, ?_⟩
      · rcases List.mem_or_eq_of_mem_set hl with hl | rfl
        · exact (List.pairwise_flatten.1 hn.2.1).1 l hl
        · exact hn'
      · rw [List.pairwise_iff_getElem]
        intro p q hp1 hq1 hpq x hx y hy
        rw [List.length_set] at hp1 hq1
        rintro rfl
        have hin : ∀ r (hr : r < Fs.length), x ∈ (Fs.set i Fi')[r]'(by simpa using hr) → (r = i ∧ x ∈ Fi') ∨ (r ≠ i ∧ x ∈ Fs.getD r []) := by
          intro r hr hxr
          by_cases e9 : i = r
          · subst e9; simp at hxr; exact .inl ⟨rfl, hxr⟩
          · rw [List.getElem_set_ne e9] at hxr
            exact .inr ⟨fun e => e9 e.symm, by simpa [hr] using hxr⟩
        rcases hin p hp1 hx with ⟨e1, x1⟩ | ⟨e1, x1⟩ <;> rcases hin q hq1 hy with ⟨e2, x2⟩ | ⟨e2, x2⟩
        · omega
        · exact hd x x1 (by simp [flat_in hq1 x x2])
        · exact hd x x2 (by simp [flat_in hp1 x x1])
        · exact flat_apart hn.2.1 hp1 hq1 (by omega) x x1 x2
    · rintro rfl
      rcases hmem a hb with h5 | h5
      · exact hn.2.2 a ha a h5 rfl
      · exact hd a h5 (by simp [ha])
  · intro x hx
    rcases List.mem_append.1 hx with hx | hx
    · exact .inl (by simp [hx])
    · rcases hmem x hx with h5 | h5
      · exact .inl (by simp [h5])
      · exact .inr h5
/-- A new row of rows that have nothing. -/
theorem OwR.made {β : Type} {P : World → Value → List β → List Nat → Prop} (hP : ∀ w, P w (.slice none 0 0) [] []) {w : World} {v : Value} {base n : Nat} {e : TypeId} (h : w.ownsRow base e 1 v n (List.replicate n (.slice none 0 0))) : OwR e P w v (List.replicate n []) (blk v) := by
  refine ⟨List.replicate n (.slice none 0 0), List.replicate n [], by simp, by simp, by rw [List.length_replicate]; exact own_base h (Nat.zero_le _), fun i hi => ?_, ?_⟩
  · rw [List.length_replicate] at hi
    have e1 : (List.replicate n (Value.slice none 0 0)).getD i (.slice none 0 0) = .slice none 0 0 := by simp [hi]
    have e2 : (List.replicate n ([] : List Nat)).getD i [] = [] := by simp [hi]
    rw [e1, e2, List.getElem_replicate]
    exact hP w
  · have : (List.replicate n ([] : List Nat)).flatten = [] := by simp
    rw [this, List.append_nil]
theorem blk_nodup (v : Value) : (blk v).Nodup := by unfold blk; cases v.ownBlock <;> simp
end

end Go.Proofs.Ytkefpjbdkhifhaa

namespace Go.Proofs.Ytkefpjbdkhifhaa
open Go.RowKit

/-- A list of blocks in which one part is another one. -/
theorem parts_set {B : List Nat} {Fs : List (List Nat)} (h : (B ++ Fs.flatten).Nodup) {i : Nat} (hi : i < Fs.length) {Fi : List Nat} (hn : Fi.Nodup) (hd : ∀ x ∈ Fi, x ∈ Fs.getD i [] ∨ x ∉ B ++ Fs.flatten) :
    (B ++ (Fs.set i Fi).flatten).Nodup ∧ ∀ x ∈ B ++ (Fs.set i Fi).flatten, x ∈ B ++ Fs.flatten ∨ x ∈ Fi := by
  have hp := List.nodup_append.1 h
  have hmem : ∀ x, x ∈ (Fs.set i Fi).flatten → x ∈ Fs.flatten ∨ x ∈ Fi := by
    intro x hx
    obtain ⟨l, hl, hxl⟩ := List.mem_flatten.1 hx
    rcases List.mem_or_eq_of_mem_set hl with hl | rfl
    · exact .inl (List.mem_flatten.2 ⟨l, hl, hxl⟩)
    · exact .inr hxl
  have hdj : ∀ j, j < Fs.length → j ≠ i → ∀ x ∈ Fi, x ∉ Fs.getD j [] := fun j hj hji x hx hx2 => by
    rcases hd x hx with h5 | h5
    · exact flat_apart hp.2.1 hi hj (fun e => hji e.symm) x h5 hx2
    · exact h5 (by simp [flat_in hj x hx2])
  refine ⟨List.nodup_append.2 ⟨hp.1, List.pairwise_flatten.2 ⟨fun l hl => ?_, ?_⟩, fun a ha b hb => ?_⟩, fun x hx => ?_⟩
  · rcases List.mem_or_eq_of_mem_set hl with hl | rfl
    · exact (List.pairwise_flatten.1 hp.2.1).1 l hl
    · exact hn
  · rw [List.pairwise_iff_getElem]
    intro p q hp1 hq1 hpq x hx y hy
    rw [List.length_set] at hp1 hq1
    rintro rfl
    have hin : ∀ r (hr : r < Fs.length), x ∈ (Fs.set i Fi)[r]'(by simpa using hr) → (r = i ∧ x ∈ Fi) ∨ (r ≠ i ∧ x ∈ Fs.getD r []) := by
      intro r hr hxr
      by_cases e9 : i = r
      · subst e9; simp at hxr; exact .inl ⟨rfl, hxr⟩
      · rw [List.getElem_set_ne e9] at hxr
        exact .inr ⟨fun e => e9 e.symm, by simpa [hr] using hxr⟩
    rcases hin p hp1 hx with ⟨e1, x1⟩ | ⟨e1, x1⟩ <;> rcases hin q hq1 hy with ⟨e2, x2⟩ | ⟨e2, x2⟩
    · omega
    · exact hdj q hq1 e2 x x1 x2
    · exact hdj p hp1 e1 x x2 x1
    · exact flat_apart hp.2.1 hp1 hq1 (by omega) x x1 x2
  · rintro rfl
    rcases hmem a hb with h5 | h5
    · exact hp.2.2 a ha a h5 rfl
    · rcases hd a h5 with h6 | h6
      · exact hp.2.2 a ha a (flat_in hi a h6) rfl
      · exact h6 (by simp [ha])
  · rcases List.mem_append.1 hx with hx | hx
    · exact .inl (by simp [hx])
    · rcases hmem x hx with h5 | h5
      · exact .inl (by simp [h5])
      · exact .inr h5

/-- An element of a row that is owned becomes another value, which may reach what the old one reached. -/
theorem OwR.swap {α : Type} {e : TypeId} {P : World → Value → α → List Nat → Prop} {w : World} {v : Value} {L : List α} {F : List Nat} (hP : OwOk P) (h : OwR e P w v L F) (hF : F.Nodup) (i : Nat) (hi : i < L.length) : ∃ g cap u Fi, v = .slice (some ⟨g, 0, none⟩) L.length cap ∧ g ∈ F ∧ g ∉ Fi ∧ w.cell? ⟨g, i, none⟩ = some u ∧ (∀ w1, Wr Fi w w1 → w1.frozen? ⟨g, i, none⟩ = false ∧ w1.cell? ⟨g, i, none⟩ = some u) ∧ P w u L[i] Fi ∧ Fi.Nodup ∧ (∀ x ∈ Fi, x ∈ F) ∧
    ∀ w1 u' a' Fi', Wr Fi w w1 → P w1 u' a' Fi' → Fi'.Nodup → (∀ x ∈ Fi', x ∈ Fi ∨ x ∉ F) → ∃ F', OwR e P (w1.setCell ⟨g, i, none⟩ u') v (L.set i a') F' ∧ F'.Nodup ∧ ∀ x ∈ F', x ∈ F ∨ x ∈ Fi' := by
  obtain ⟨us, Fs, h1, h2, h3, h4, rfl⟩ := h
  obtain ⟨ao, cap, rfl⟩ := own_form h3
  obtain ⟨g, rfl, _, _⟩ := own_at h3 (by omega)
  have hn := List.nodup_append.1 hF
  have hgb : g ∈ blk (Value.slice (some ⟨g, 0, none⟩) L.length cap) := mem_blk.2 rfl
  have hgi : ∀ j, j < L.length → g ∉ Fs.getD j [] := fun j hj hx => hn.2.2 g hgb g (flat_in (by omega) g hx) rfl
  have hil : i < Fs.length := by omega
  have hown : ∀ w1, Wr (Fs.getD i []) w w1 → w1.ownsRow 0 e 1 (.slice (some ⟨g, 0, none⟩) L.length cap) L.length us := fun w1 hw => own_sameAt h3 (fun x hx => hw.block x (h3.lt x hx).2 (by have e9 : g = x := Option.some.inj hx; subst e9; exact hgi i hi))
  have hce : ∀ w1, Wr (Fs.getD i []) w w1 → w1.cell? ⟨g, i, none⟩ = some (us.getD i (.slice none 0 0)) := fun w1 hw => by
    rw [(hown w1 hw).cellAt i (by omega)]
    simp [show i < us.length by omega]
  refine ⟨g, cap, us.getD i (.slice none 0 0), Fs.getD i [], rfl, by simp [hgb], hgi i hi, hce w (Wr.refl _ _), fun w1 hw => ⟨(hown w1 hw).frozenAt i, hce w1 hw⟩, h4 i hi, ?_, fun x hx => by simp [flat_in hil x hx], fun w1 u' a' Fi' hw hp hn' hd => ?_⟩
  · exact (List.pairwise_flatten.1 hn.2.1).1 (Fs.getD i []) (by rw [List.getD_eq_getElem?_getD, List.getElem?_eq_getElem hil]; simp)
  · obtain ⟨p1, p2⟩ := parts_set hF hil hn' hd
    have st := ((hown w1 hw).stored i u')
    have hgF : g ∉ Fi' := fun hx => by
      rcases hd g hx with h5 | h5
      · exact hgi i hi h5
      · exact h5 (by simp [hgb])
    have hw2 : Wr [g] w1 (w1.setCell ⟨g, i, none⟩ u') := Wr.ofRow st.2 (fun x hx => by have := Option.some.inj hx; simp [this])
    refine ⟨_, ⟨us.set i u', Fs.set i Fi', by simp [h1], by simp [h2], by rw [List.length_set]; exact st.1, fun j hj => ?_, rfl⟩, p1, p2⟩
    rw [List.length_set] at hj
    by_cases e9 : i = j
    · subst e9
      have eu : (us.set i u').getD i (.slice none 0 0) = u' := by simp [show i < us.length by omega]
      have ef : (Fs.set i Fi').getD i [] = Fi' := by simp [hil]
      rw [eu, ef]
      simp only [List.getElem_set_self]
      exact hP.wr hp hw2 (fun x hx e => by simp at e; subst e; exact hgF hx)
    · have eu : (us.set i u').getD j (.slice none 0 0) = us.getD j (.slice none 0 0) := by simp [e9]
      have ef : (Fs.set i Fi').getD j [] = Fs.getD j [] := by simp [e9]
      rw [eu, ef, List.getElem_set_ne e9]
      exact hP.wr (hP.wr (h4 j hj) hw (flat_apart hn.2.1 (by omega) (by omega) (fun e => e9 e.symm))) hw2 (fun x hx e => by simp at e; subst e; exact hgi j hj hx)

/-- What is read of a row of structs: each has sz cells. -/
def RdG {α : Type} (sz : Nat) (P : World → (Nat → Value) → α → Prop) (w : World) (v : Value) (L : List α) : Prop :=
  ∃ ao cap, v = .slice ao L.length cap ∧ ∀ i (h : i < L.length), ∃ b off c, ao = some ⟨b, off, none⟩ ∧ (∀ j, j < sz → w.cell? ⟨b, off + i * sz + j, none⟩ = some (c j)) ∧ P w c L[i]
def StG {α : Type} (P : World → (Nat → Value) → α → Prop) : Prop := ∀ w w' c a, P w c a → w.grownBy w' none → P w' c a
theorem RdG.st {α : Type} {sz : Nat} {P : World → (Nat → Value) → α → Prop} (hP : StG P) : StR (RdG sz P) := fun _ _ _ _ ⟨ao, cap, e, h⟩ g =>
  ⟨ao, cap, e, fun i hi => by obtain ⟨b, off, c, e1, h1, h2⟩ := h i hi; exact ⟨b, off, c, e1, fun j hj => g.cell (h1 j hj) (by simp), hP _ _ _ _ h2 g⟩⟩

/-- Who owns a row of structs. -/
def OwG {α : Type} (e : TypeId) (sz : Nat) (P : World → (Nat → Value) → α → List Nat → Prop) (w : World) (v : Value) (L : List α) (F : List Nat) : Prop :=
  ∃ (U : Nat → Nat → Value) (Fs : List (List Nat)), Fs.length = L.length ∧ w.ownsRow 0 e sz v L.length (rowsK L.length sz U) ∧ (∀ i (h : i < L.length), P w (U i) L[i] (Fs.getD i [])) ∧ F = blk v ++ Fs.flatten
structure OkG {α : Type} (P : World → (Nat → Value) → α → List Nat → Prop) : Prop where
  same : ∀ w w' c a F, P w c a F → (∀ g ∈ F, w'.heap[g]? = w.heap[g]?) → P w' c a F
  lt : ∀ w c a F, P w c a F → ∀ g ∈ F, g < w.heap.size

section
variable {α : Type} {e : TypeId} {sz : Nat} {P : World → (Nat → Value) → α → List Nat → Prop} {w : World} {v : Value} {L : List α} {F : List Nat}
theorem OkG.wr (hP : OkG P) {w w' : World} {c : Nat → Value} {a : α} {F G : List Nat} (h : P w c a F) (g : Wr G w w') (hd : ∀ x ∈ F, x ∉ G) : P w' c a F :=
  hP.same w w' c a F h (fun x hx => g.block x (hP.lt w c a F h x hx) (hd x hx))
theorem OkG.keep (hP : OkG P) {w w' : World} {c : Nat → Value} {a : α} {F : List Nat} (h : P w c a F) (g : w.grownBy w' none) : P w' c a F :=
  hP.wr h (Wr.ofNone (F := []) g) (fun x _ => by simp)
theorem OwG.ok (hP : OkG P) : OwOk (OwG e sz P) := by
  refine ⟨?_, ?_, ?_⟩
  · rintro w w' u a F ⟨U, Fs, h2, h3, h4, rfl⟩ hs
    refine ⟨U, Fs, h2, own_sameAt h3 (fun g hg => hs g (by simp [mem_blk.2 hg])), fun i hi => ?_, rfl⟩
    exact hP.same w w' _ _ _ (h4 i hi) (fun g hg => hs g (by have := flat_in (by omega) g hg; simp [this]))
  · rintro w u a F ⟨U, Fs, h2, h3, h4, rfl⟩ g hg
    rcases List.mem_append.1 hg with hg | hg
    · exact (h3.lt g (mem_blk.1 hg)).2
    · obtain ⟨l, hl, hgl⟩ := List.mem_flatten.1 hg
      obtain ⟨i, hi, rfl⟩ := List.mem_iff_getElem.1 hl
      exact hP.lt w _ _ _ (h4 i (by omega)) g (by simpa [hi] using hgl)
  · rintro w u a F ⟨U, Fs, h2, h3, h4, rfl⟩
    obtain ⟨ao, cap, rfl⟩ := own_form h3
    exact ⟨_, _, _, rfl⟩
theorem OwG.form (h : OwG e sz P w v L F) : ∃ ao cap, v = .slice ao L.length cap := by
  obtain ⟨U, Fs, _, h3, _⟩ := h
  exact own_form h3
theorem OwG.nil (e : TypeId) (sz : Nat) (P : World → (Nat → Value) → α → List Nat → Prop) (w : World) : OwG e sz P w (.slice none 0 0) [] [] := ⟨fun _ _ => .slice none 0 0, [], rfl, ⟨by rw [rowsK_len], .inl ⟨rfl, rfl⟩⟩, fun i hi => absurd hi (by simp), rfl⟩
theorem cellG {g cap n : Nat} {U : Nat → Nat → Value} {base : Nat} (h : w.ownsRow base e sz (.slice (some ⟨g, 0, none⟩) n cap) n (rowsK n sz U)) (i j : Nat) (hi : i < n) (hj : j < sz) : w.cell? ⟨g, i * sz + j, none⟩ = some (U i j) := by
  have hlt : i * sz + j < n * sz := Nat.lt_of_lt_of_le (Nat.add_lt_add_left hj _) (by rw [← Nat.succ_mul]; exact Nat.mul_le_mul_right _ hi)
  rw [h.cellAt _ hlt]
  exact rowsK_get n sz U i j hi hj
theorem OwG.rd {Q : World → (Nat → Value) → α → Prop} (hPQ : ∀ w c a F, P w c a F → Q w c a) (h : OwG e sz P w v L F) : RdG sz Q w v L := by
  obtain ⟨U, Fs, h2, h3, h4, rfl⟩ := h
  obtain ⟨ao, cap, rfl⟩ := own_form h3
  refine ⟨ao, cap, rfl, fun i hi => ?_⟩
  obtain ⟨g, rfl, _, _⟩ := own_at h3 (by omega)
  exact ⟨g, 0, U i, rfl, fun j hj => by rw [Nat.zero_add]; exact cellG h3 i j hi hj, hPQ _ _ _ _ (h4 i hi)⟩
/-- An element, and what becomes of the row when what the element reaches becomes another thing. -/
theorem OwG.turn (hP : OkG P) (h : OwG e sz P w v L F) (hF : F.Nodup) (i : Nat) (hi : i < L.length) : ∃ g cap c Fi, v = .slice (some ⟨g, 0, none⟩) L.length cap ∧ g ∈ F ∧ g ∉ Fi ∧ (∀ j, j < sz → w.cell? ⟨g, i * sz + j, none⟩ = some (c j)) ∧ (∀ j, w.frozen? ⟨g, j, none⟩ = false) ∧ P w c L[i] Fi ∧ Fi.Nodup ∧ (∀ x ∈ Fi, x ∈ F) ∧
    (∀ w' a' Fi', Wr Fi w w' → P w' c a' Fi' → Fi'.Nodup → (∀ x ∈ Fi', x ∈ Fi ∨ x ∉ F) → ∃ F', OwG e sz P w' v (L.set i a') F' ∧ F'.Nodup ∧ ∀ x ∈ F', x ∈ F ∨ x ∈ Fi') ∧
    (∀ w' (c' : Nat → Value) a' Fi', Wr (g :: Fi) w w' → (∀ U, w.ownsRow 0 e sz v L.length (rowsK L.length sz U) → w'.ownsRow 0 e sz v L.length (rowsK L.length sz (fun p q => if p = i then c' q else U p q))) → P w' c' a' Fi' → Fi'.Nodup → (∀ x ∈ Fi', x ∈ Fi ∨ x ∉ F) → ∃ F', OwG e sz P w' v (L.set i a') F' ∧ F'.Nodup ∧ ∀ x ∈ F', x ∈ F ∨ x ∈ Fi') := by
  obtain ⟨U, Fs, h2, h3, h4, rfl⟩ := h
  obtain ⟨ao, cap, rfl⟩ := own_form h3
  obtain ⟨g, rfl, _, _⟩ := own_at h3 (by omega)
  have hn := List.nodup_append.1 hF
  have hgb : g ∈ blk (Value.slice (some ⟨g, 0, none⟩) L.length cap) := mem_blk.2 rfl
  have hgi : ∀ j, j < L.length → g ∉ Fs.getD j [] := fun j hj hx => hn.2.2 g hgb g (flat_in (by omega) g hx) rfl
  have hil : i < Fs.length := by omega
  refine ⟨g, cap, U i, Fs.getD i [], rfl, by simp [hgb], hgi i hi, fun j hj => cellG h3 i j hi hj, fun j => h3.frozenAt j, h4 i hi, ?_, fun x hx => by simp [flat_in hil x hx], fun w' a' Fi' hw hp hn' hd => ?_, fun w' c' a' Fi' hw ho hp hn' hd => ?_⟩
  · exact (List.pairwise_flatten.1 hn.2.1).1 (Fs.getD i []) (by rw [List.getD_eq_getElem?_getD, List.getElem?_eq_getElem hil]; simp)
  · obtain ⟨p1, p2⟩ := parts_set hF hil hn' hd
    refine ⟨_, ⟨U, Fs.set i Fi', by simp [h2], ?_, fun j hj => ?_, rfl⟩, p1, p2⟩
    · rw [List.length_set]
      exact own_sameAt h3 (fun x hx => hw.block x (h3.lt x hx).2 (by have e9 : g = x := Option.some.inj hx; subst e9; exact hgi i hi))
    · rw [List.length_set] at hj
      by_cases e9 : i = j
      · subst e9
        have ef : (Fs.set i Fi').getD i [] = Fi' := by simp [hil]
        rw [ef]
        simp only [List.getElem_set_self]
        exact hp
      · have ef : (Fs.set i Fi').getD j [] = Fs.getD j [] := by simp [e9]
        rw [ef, List.getElem_set_ne e9]
        exact hP.wr (h4 j hj) hw (flat_apart hn.2.1 (by omega) (by omega) (fun e => e9 e.symm))
  · obtain ⟨p1, p2⟩ := parts_set hF hil hn' hd
    refine ⟨_, ⟨_, Fs.set i Fi', by simp [h2], by rw [List.length_set]; exact ho U h3, fun j hj => ?_, rfl⟩, p1, p2⟩
    rw [List.length_set] at hj
    by_cases e9 : i = j
    · subst e9
      have ef : (Fs.set i Fi').getD i [] = Fi' := by simp [hil]
      rw [ef]
      simp only [List.getElem_set_self, if_true]
      exact hp
    · have ef : (Fs.set i Fi').getD j [] = Fs.getD j [] := by simp [e9]
      rw [ef, List.getElem_set_ne e9]
      have ec : (fun q => if j = i then c' q else U j q) = U j := by funext q; rw [if_neg (fun e => e9 e.symm)]
      rw [ec]
      exact hP.wr (h4 j hj) hw (fun x hx hy => by
        rcases List.mem_cons.1 hy with rfl | hy
        · exact hgi j hj hx
        · exact flat_apart hn.2.1 (by omega) (by omega) (fun e => e9 e.symm) x hx hy)
/-- An element, and what becomes of the row when it is written anew in its own blocks. -/
theorem OwG.at (hP : OkG P) (h : OwG e sz P w v L F) (hF : F.Nodup) (i : Nat) (hi : i < L.length) : ∃ g cap c Fi, v = .slice (some ⟨g, 0, none⟩) L.length cap ∧ g ∈ F ∧ g ∉ Fi ∧ (∀ w1, Wr Fi w w1 → (∀ j, j < sz → w1.cell? ⟨g, i * sz + j, none⟩ = some (c j)) ∧ (∀ j, w1.frozen? ⟨g, j, none⟩ = false)) ∧ P w c L[i] Fi ∧ Fi.Nodup ∧ (∀ x ∈ Fi, x ∈ F) ∧
    ∀ w1 w' (c' : Nat → Value) a', Wr Fi w w1 → Wr [g] w1 w' → (∀ U, w1.ownsRow 0 e sz v L.length (rowsK L.length sz U) → (∀ j, j < sz → U i j = c j) → w'.ownsRow 0 e sz v L.length (rowsK L.length sz (fun p q => if p = i then c' q else U p q))) → P w' c' a' Fi → OwG e sz P w' v (L.set i a') F := by
  obtain ⟨U, Fs, h2, h3, h4, rfl⟩ := h
  obtain ⟨ao, cap, rfl⟩ := own_form h3
  obtain ⟨g, rfl, _, _⟩ := own_at h3 (by omega)
  have hn := List.nodup_append.1 hF
  have hgb : g ∈ blk (Value.slice (some ⟨g, 0, none⟩) L.length cap) := mem_blk.2 rfl
  have hgi : ∀ j, j < L.length → g ∉ Fs.getD j [] := fun j hj hx => hn.2.2 g hgb g (flat_in (by omega) g hx) rfl
  have hil : i < Fs.length := by omega
  have hown : ∀ w1, Wr (Fs.getD i []) w w1 → w1.ownsRow 0 e sz (.slice (some ⟨g, 0, none⟩) L.length cap) L.length (rowsK L.length sz U) := fun w1 hw => own_sameAt h3 (fun x hx => hw.block x (h3.lt x hx).2 (by have e9 : g = x := Option.some.inj hx; subst e9; exact hgi i hi))
  refine ⟨g, cap, U i, Fs.getD i [], rfl, by simp [hgb], hgi i hi, fun w1 hw => ⟨fun j hj => cellG (hown w1 hw) i j hi hj, fun j => (hown w1 hw).frozenAt j⟩, h4 i hi, ?_, fun x hx => by simp [flat_in hil x hx], fun w1 w' c' a' hw hw2 ho hp => ?_⟩
  · exact (List.pairwise_flatten.1 hn.2.1).1 (Fs.getD i []) (by rw [List.getD_eq_getElem?_getD, List.getElem?_eq_getElem hil]; simp)
  · refine ⟨_, Fs, by simp [h2], by rw [List.length_set]; exact ho U (hown w1 hw) (fun _ _ => rfl), fun j hj => ?_, rfl⟩
    rw [List.length_set] at hj
    by_cases e9 : i = j
    · subst e9
      simp only [List.getElem_set_self, if_true]
      exact hp
    · rw [List.getElem_set_ne e9]
      have ec : (fun q => if j = i then c' q else U j q) = U j := by funext q; rw [if_neg (fun e => e9 e.symm)]
      rw [ec]
      exact hP.wr (hP.wr (h4 j hj) hw (flat_apart hn.2.1 (by omega) (by omega) (fun e => e9 e.symm))) hw2 (fun x hx hy => by simp at hy; subst hy; exact hgi j hj hx)
/-- A new row, of structs that reach nothing. -/
theorem OwG.made {z : α} {zc : Nat → Value} (hz : ∀ w, P w zc z []) {base n : Nat} (h : w.ownsRow base e sz v n (rowsK n sz (fun _ j => zc j))) : OwG e sz P w v (List.replicate n z) (blk v) := by
  refine ⟨fun _ j => zc j, List.replicate n [], by simp, by rw [List.length_replicate]; exact own_base h (Nat.zero_le _), fun i hi => ?_, ?_⟩
  · rw [List.length_replicate] at hi
    have e2 : (List.replicate n ([] : List Nat)).getD i [] = [] := by simp [hi]
    rw [e2, List.getElem_replicate]
    exact hz w
  · have : (List.replicate n ([] : List Nat)).flatten = [] := by simp
    rw [this, List.append_nil]
end

end Go.Proofs.Ytkefpjbdkhifhaa

namespace Go.Proofs.Ytkefpjbdkhifhaa
open Go.RowKit

theorem rowsK_append (n m k : Nat) (hk : 0 < k) (U V : Nat → Nat → Value) : rowsK n k U ++ rowsK m k V = rowsK (n + m) k (fun i j => if i < n then U i j else V (i - n) j) := by
  apply List.ext_getElem?
  intro c
  by_cases h1 : c < n * k
  · rw [List.getElem?_append_left (by rw [rowsK_len]; exact h1)]
    have hi' : c / k < n := Nat.div_lt_of_lt_mul (by rw [Nat.mul_comm]; exact h1)
    have hm : c % k < k := Nat.mod_lt _ hk
    have hd : c = (c / k) * k + c % k := by have := Nat.div_add_mod c k; rw [Nat.mul_comm] at this; omega
    rw [hd, rowsK_get n k U _ _ hi' hm, rowsK_get (n + m) k _ _ _ (by omega) hm, if_pos hi']
  · obtain ⟨d, rfl⟩ : ∃ d, c = n * k + d := ⟨c - n * k, by omega⟩
    rw [List.getElem?_append_right (by rw [rowsK_len]; omega), rowsK_len, Nat.add_sub_cancel_left]
    have hd : d = (d / k) * k + d % k := by have := Nat.div_add_mod d k; rw [Nat.mul_comm] at this; omega
    have hm : d % k < k := Nat.mod_lt _ hk
    have hc : n * k + d = (n + d / k) * k + d % k := by rw [Nat.add_mul]; omega
    by_cases h2 : d < m * k
    · have hi' : d / k < m := Nat.div_lt_of_lt_mul (by rw [Nat.mul_comm]; exact h2)
      rw [hc, rowsK_get (n + m) k _ _ _ (Nat.add_lt_add_left hi' n) hm, if_neg (Nat.not_lt.2 (Nat.le_add_right _ _)), Nat.add_sub_cancel_left]
      have e9 := rowsK_get m k V (d / k) (d % k) hi' hm
      rw [← hd] at e9
      exact e9
    · rw [List.getElem?_eq_none (by rw [rowsK_len]; omega), List.getElem?_eq_none (by rw [rowsK_len, Nat.add_mul]; omega)]

theorem append_rowsG {α : Type} {P : World → (Nat → Value) → α → List Nat → Prop} (hP : OkG P) {e T : TypeId} {sz bytes : Nat} {z : Value} (hT : Try.prog.underlying T = some (.slice e)) (hI : (Try.prog.info? e).map (fun i => (i.zero, i.size, i.bytes)) = some (some z, sz, bytes)) (hzs : z.cells.size = sz) (hsz : 0 < sz) (hbt : bytes ≤ 1000)
    {w : World} {ops : Array Oper} {rest : List Oper} {o : Oper} {a : Act} {Q : Exit → Act → World → Prop} (hgd : o.guard = none) (s x : Operand)
    (ho : o.op = .call { callee := .builtin .append, args := #[s, x], argTypes := #[T, T] })
    (v : Value) (L : List α) (F : List Nat) (hs : a.eval s = v) (hown : OwG e sz P w v L F) (hF : F.Nodup)
    (cs : Array Value) (m : Nat) (V : Nat → Nat → Value) (hcs : cs.toList = rowsK m sz V) (M : List α) (hM : M.length = m) (Gs : List (List Nat)) (hGs : Gs.length = m) (hu : ∀ i (h : i < M.length), P w (V i) M[i] (Gs.getD i [])) (hG : Gs.flatten.Nodup) (hd : ∀ x ∈ Gs.flatten, x ∉ F) (h1c : ∀ u ∈ cs.toList, u.oneCell' = true)
    (H : Nat) (hH : w.heap.size = H) (hx : a.eval x = .slice (some ⟨H, 0, none⟩) m m) (hb : L.length + m ≤ 1000000) (R : List α) (hR : L ++ M = R)
    (h : ∀ v' w' F', OwG e sz P w' v' R F' → F'.Nodup → (∀ x ∈ F', x ∈ F ∨ x ∈ Gs.flatten ∨ w.heap.size ≤ x) → Wr (blk v) w w' → wpList Try.prog ops Q rest (a.put o.dst v') w') :
    wpList Try.prog ops Q (o :: rest) a (w.alloc (.cells cs e)) := by
  subst hR
  subst hH
  obtain ⟨i0, hi, hz0, hz1, hz2⟩ := info_parts hI
  obtain ⟨U, Fs, l2, o1, els, rfl⟩ := hown
  have hn := List.nodup_append.1 hF
  have hbb : (L.length + m) * bytes ≤ 1000000 * 1000 := Nat.mul_le_mul hb hbt
  refine wpList_append_own_at _ hgd s x T ho 0 e i0 _ sz bytes hT hi hz0 hz1 hz2 hzs hsz v L.length _ hs (o1.alloc _) ⟨w.heap.size, 0, none⟩ m m cs.toList hx (by rw [hcs, rowsK_len]) (World.news_of_block (cs := cs) (t := e) (fr := (0, 0)) (heap_alloc_new w _)) h1c (by unfold maxLen; omega) (by omega) (Nat.zero_le _) ?_
  intro v' w' h1 h2 _ h4
  have hga : w.grownBy w' v.ownBlock := ⟨h2.os, h2.tape, h2.output, by have h := h2.size; simp at h; omega, fun k hk hr => (h2.block k (by simp; omega) hr).trans (Below.heap_alloc _ _ _ hk)⟩
  have hw : Wr (blk v) w w' := Wr.ofRow hga (fun g e => mem_blk.2 e)
  have hvb : ∀ y, y ∈ blk v' → y ∈ blk v ∨ w.heap.size ≤ y := fun y hy => by
    rcases h4 with h4 | h4
    · exact .inl (mem_blk.2 (by rw [← h4]; exact mem_blk.1 hy))
    · have e1 := mem_blk.1 hy
      rw [h4] at e1
      have e2 : (w.alloc (.cells cs e)).heap.size = y := Option.some.inj e1
      exact .inr (by simp at e2; omega)
  have hfl : (Fs ++ Gs).flatten = Fs.flatten ++ Gs.flatten := by simp
  have hlt : ∀ y ∈ Fs.flatten, y < w.heap.size := fun y hy => by
    obtain ⟨l, hl, hyl⟩ := List.mem_flatten.1 hy
    obtain ⟨i, hi, rfl⟩ := List.mem_iff_getElem.1 hl
    exact hP.lt w _ _ _ (els i (by omega)) y (by simpa [hi] using hyl)
  have hltG : ∀ y ∈ Gs.flatten, y < w.heap.size := fun y hy => by
    obtain ⟨l, hl, hyl⟩ := List.mem_flatten.1 hy
    obtain ⟨i, hi, rfl⟩ := List.mem_iff_getElem.1 hl
    exact hP.lt w _ _ _ (hu i (by omega)) y (by simpa [hi] using hyl)
  refine h v' w' (blk v' ++ (Fs ++ Gs).flatten) ⟨fun i j => if i < L.length then U i j else V (i - L.length) j, Fs ++ Gs, by simp [l2, hGs, hM], ?_, fun i hi => ?_, rfl⟩ ?_ ?_ hw
  · rw [List.length_append, hM, ← rowsK_append L.length m sz hsz, ← hcs]; exact h1
  · by_cases hil : i < L.length
    · have e1 : (fun j => if i < L.length then U i j else V (i - L.length) j) = U i := by funext j; rw [if_pos hil]
      have e2 : (Fs ++ Gs).getD i [] = Fs.getD i [] := by simp [List.getElem?_append_left (show i < Fs.length by omega)]
      dsimp only
      rw [e1, e2, List.getElem_append_left hil]
      exact hP.wr (els i hil) hw (fun y hy hy2 => hn.2.2 y hy2 y (flat_in (by omega) y hy) rfl)
    · have him : i - L.length < M.length := by rw [List.length_append] at hi; omega
      have e1 : (fun j => if i < L.length then U i j else V (i - L.length) j) = V (i - L.length) := by funext j; rw [if_neg hil]
      have e2 : (Fs ++ Gs).getD i [] = Gs.getD (i - L.length) [] := by simp [List.getElem?_append_right (show Fs.length ≤ i by omega), l2]
      dsimp only
      rw [e1, e2, List.getElem_append_right (by omega)]
      exact hP.wr (hu (i - L.length) him) hw (fun y hy hy2 => hd y (flat_in (by omega) y hy) (by simp [hy2]))
  · rw [hfl]
    refine List.nodup_append.2 ⟨blk_nodup v', List.nodup_append.2 ⟨hn.2.1, hG, fun y hy z hz => ?_⟩, fun y hy z hz => ?_⟩
    · rintro rfl
      exact hd y hz (by simp [hy])
    · rintro rfl
      rcases List.mem_append.1 hz with hz | hz
      · rcases hvb y hy with h5 | h5
        · exact hn.2.2 y h5 y hz rfl
        · have := hlt y hz; omega
      · rcases hvb y hy with h5 | h5
        · exact hd y hz (by simp [h5])
        · have := hltG y hz; omega
  · intro y hy
    rw [hfl] at hy
    rcases List.mem_append.1 hy with hy | hy
    · rcases hvb y hy with h5 | h5
      · exact .inl (by simp [h5])
      · exact .inr (.inr h5)
    · rcases List.mem_append.1 hy with hy | hy
      · exact .inl (by simp [hy])
      · exact .inr (.inl hy)

end Go.Proofs.Ytkefpjbdkhifhaa

namespace Go.Proofs.Ytkefpjbdkhifhaa
open Go.RowKit

theorem info_iS : (Try.prog.info? 3).map (fun i => (i.zero, i.size, i.bytes)) = some (some (.int .i64 0), 1, 8) := by kernel_rfl
theorem append_intS {w : World} {ops : Array Oper} {rest : List Oper} {o : Oper} {a : Act} {Q : Exit → Act → World → Prop} (hgd : o.guard = none) (s x : Operand)
    (ho : o.op = .call { callee := .builtin .append, args := #[s, x], argTypes := #[24, 24] })
    (base : Nat) (v : Value) (L : List Int) (hs : a.eval s = v) (hown : w.ownsRow base 3 1 v L.length (L.map (Value.int .i64))) (t : Int) (hx : a.eval x = .slice (some ⟨w.heap.size, 0, none⟩) 1 1) (hb : L.length ≤ 2000000) (hbase : base ≤ w.heap.size) (R : List Int) (hR : L ++ [t] = R)
    (hK : ∀ v' w', w'.ownsRow base 3 1 v' R.length (R.map (Value.int .i64)) → w.grownBy w' v.ownBlock → (v'.ownBlock = v.ownBlock ∨ ∀ g, v'.ownBlock = some g → w.heap.size ≤ g) → wpList Try.prog ops Q rest (a.put o.dst v') w') :
    wpList Try.prog ops Q (o :: rest) a (w.alloc (.cells #[.int .i64 t] 3)) := by
  subst hR
  obtain ⟨i0, hi, hz0, hz1, hz2⟩ := info_parts info_iS
  refine wpList_append_own_at _ hgd s x 24 ho base 3 i0 _ 1 8 Try.underlying24 hi hz0 hz1 hz2 rfl (by decide) v L.length _ hs (hown.alloc _) ⟨w.heap.size, 0, none⟩ 1 1 [.int .i64 t] hx rfl (World.news_of_block (cs := #[.int .i64 t]) (t := 3) (fr := (0, 0)) (heap_alloc_new w _)) (by intro u hu; simp at hu; subst hu; rfl) (by unfold maxLen; omega) (by omega) (by simp; omega) ?_
  intro v' w' h1 h2 _ h4
  refine hK v' w' ?_ ⟨h2.os, h2.tape, h2.output, by have h := h2.size; simp at h; omega, fun k hk hr => (h2.block k (by simp; omega) hr).trans (Below.heap_alloc _ _ _ hk)⟩ ?_
  · rw [List.map_append, List.length_append]; exact h1
  · rcases h4 with h4 | h4
    · exact .inl h4
    · refine .inr fun g e => ?_
      rw [h4] at e
      have e2 : (w.alloc (.cells #[.int .i64 t] 3)).heap.size = g := Option.some.inj e
      simp at e2; omega

end Go.Proofs.Ytkefpjbdkhifhaa

namespace Go.Proofs.Ytkefpjbdkhifhaa
open Go.RowKit

section
variable {P : Program} {ops : Array Oper} {md : Region.Mode} {S : World → Prop} {Q : Exit → Act → World → Prop}

/-- Those that are marked, in the order of the text, each with what it yields; then L. -/
def heldF (P : Program) (ops : Array Oper) (S : World → Prop) (L : Act → Prop) : List Oper → List Bool → Act → Prop
  | o :: rest, true :: ms, a => ∃ v, YieldsIf P ops S o v a ∧ heldF P ops S L rest ms (a.put o.dst v)
  | _ :: rest, false :: ms, a => heldF P ops S L rest ms a
  | _, _, a => L a
theorem heldF_take {L : Act → Prop} {o : Oper} {rest : List Oper} {ms : List Bool} {a : Act} {v : Value} (hy : YieldsIf P ops S o v a) (h : heldF P ops S L rest ms (a.put o.dst v)) : heldF P ops S L (o :: rest) (true :: ms) a := ⟨v, hy, h⟩
theorem heldF_skip {L : Act → Prop} {o : Oper} {rest : List Oper} {ms : List Bool} {a : Act} (h : heldF P ops S L rest ms a) : heldF P ops S L (o :: rest) (false :: ms) a := h
theorem heldF_nil {L : Act → Prop} {a : Act} (h : L a) : heldF P ops S L [] [] a := h

/-- Those that are not marked, in the order of the text; behind each S. -/
def tailF (P : Program) (ops : Array Oper) (Q : Exit → Act → World → Prop) (S : World → Prop) : List Oper → List Bool → Act → World → Prop
  | o :: rest, false :: ms, a, w => ∀ K' : Act → World → Prop, Shut (∀ a w, S w → tailF P ops Q S rest ms a w → K' a w) → if Region.wanted o (yielded ops a.tmps) = true then Oper.wp P o a w K' Q else K' (a.put o.dst undef) w
  | _ :: rest, true :: ms, a, w => tailF P ops Q S rest ms a w
  | _, _, a, w => Q .normal a w
theorem tailF_step {o : Oper} {rest : List Oper} {ms : List Bool} {a : Act} {w : World} (h : ∀ K' : Act → World → Prop, Shut (∀ a w, S w → tailF P ops Q S rest ms a w → K' a w) → if Region.wanted o (yielded ops a.tmps) = true then Oper.wp P o a w K' Q else K' (a.put o.dst undef) w) :
    tailF P ops Q S (o :: rest) (false :: ms) a w := h
theorem tailF_skip {o : Oper} {rest : List Oper} {ms : List Bool} {a : Act} {w : World} (h : tailF P ops Q S rest ms a w) : tailF P ops Q S (o :: rest) (true :: ms) a w := h
theorem tailF_nil {a : Act} {w : World} (h : Q .normal a w) : tailF P ops Q S [] [] a w := h

/-- How many are not marked. -/
def leftF : List Bool → Nat
  | [] => 0
  | true :: ms => leftF ms
  | false :: ms => leftF ms + 1
def takenF : List Bool → Nat
  | [] => 0
  | true :: ms => takenF ms + 1
  | false :: ms => takenF ms
def lexTail (md : Region.Mode) (ops : Array Oper) : List Bool → Nat → Array Bool → Bool
  | [], _, listed => (Region.ready md ops listed).isEmpty
  | true :: ms, k, listed => lexTail md ops ms (k + 1) listed
  | false :: ms, k, listed => (Region.ready md ops listed == [k]) && lexTail md ops ms (k + 1) (listed.setIfInBounds k true)
def lexHeld (md : Region.Mode) (ops : Array Oper) (all : List Bool) : List Bool → Nat → Array Bool → Bool
  | [], _, listed => lexTail md ops all 0 listed
  | true :: ms, k, listed => (Region.ready md ops listed).contains k && Region.free md ops listed k && lexHeld md ops all ms (k + 1) (listed.setIfInBounds k true)
  | false :: ms, k, listed => lexHeld md ops all ms (k + 1) listed

theorem anyH_tail : ∀ (l : List Oper) (ms : List Bool) (k : Nat) (listed : Array Bool) (a : Act) (w : World), l.length = ms.length → (∀ j, j < l.length → l[j]? = ops[k + j]?) →
    lexTail md ops ms k listed = true → tailF P ops Q S l ms a w → wpAnyH P md ops Q S (leftF ms) listed a w
  | [], [], _, listed, a, w, _, _, hB, h => wpAnyH_done (by simpa [lexTail] using hB) h _
  | [], _ :: _, _, _, _, _, hl, _, _, _ => by simp at hl
  | _ :: _, [], _, _, _, _, hl, _, _, _ => by simp at hl
  | o :: l, true :: ms, k, listed, a, w, hl, ha, hB, h =>
    anyH_tail l ms (k + 1) listed a w (by simpa using hl) (fun j hj => by have := ha (j + 1) (by simpa using hj); simpa [Nat.add_assoc, Nat.add_comm 1 j] using this) hB h
  | o :: l, false :: ms, k, listed, a, w, hl, ha, hB, h => by
    have h0 : ops[k]? = some o := by have := ha 0 (by simp); simpa using this.symm
    simp only [lexTail, Bool.and_eq_true, beq_iff_eq] at hB
    refine wpAnyH_all (rs := [k]) hB.1 (by simp) (fun i hi => ?_)
    obtain rfl : i = k := by simpa using hi
    refine wpOp_step h0 (fun K' hK => h K' (fun a' w' hS ht => hK a' w' ⟨hS, ?_⟩))
    exact anyH_tail l ms (i + 1) _ a' w' (by simpa using hl) (fun j hj => by have := ha (j + 1) (by simpa using hj); simpa [Nat.add_assoc, Nat.add_comm 1 j] using this) hB.2 ht

theorem anyH_held {l0 : List Oper} {all : List Bool} (hs : Region.noSelect ops = true) (hQ : ∀ c a d v w, Q (.panic c) (Act.put a d v) w → Q (.panic c) a w) (hl0 : l0.length = all.length) (ha0 : ∀ j, j < l0.length → l0[j]? = ops[0 + j]?) :
    ∀ (l : List Oper) (ms : List Bool) (k : Nat) (listed : Array Bool) (a : Act) (w : World), l.length = ms.length → (∀ j, j < l.length → l[j]? = ops[k + j]?) →
    lexHeld md ops all ms k listed = true → S w → heldF P ops S (fun a' => tailF P ops Q S l0 all a' w) l ms a → wpAnyH P md ops Q S (takenF ms + leftF all) listed a w
  | [], [], _, listed, a, w, _, _, hB, _, h => by
    simp only [takenF, Nat.zero_add]
    exact anyH_tail l0 all 0 listed a w hl0 ha0 hB h
  | [], _ :: _, _, _, _, _, hl, _, _, _, _ => by simp at hl
  | _ :: _, [], _, _, _, _, hl, _, _, _, _ => by simp at hl
  | o :: l, true :: ms, k, listed, a, w, hl, ha, hB, hS, h => by
    have h0 : ops[k]? = some o := by have := ha 0 (by simp); simpa using this.symm
    simp only [lexHeld, Bool.and_eq_true] at hB
    obtain ⟨⟨hr, hf⟩, hB'⟩ := hB
    obtain ⟨v, hy, hK⟩ := h
    have e : takenF (true :: ms) + leftF all = (takenF ms + leftF all) + 1 := by simp only [takenF]; omega
    rw [e]
    exact wpAnyH_take h0 hs hf hr (fun c a' w' hq => hQ c a' _ _ w' hq) hy hS
      (anyH_held hs hQ hl0 ha0 l ms (k + 1) _ _ w (by simpa using hl) (fun j hj => by have := ha (j + 1) (by simpa using hj); simpa [Nat.add_assoc, Nat.add_comm 1 j] using this) hB' hS hK)
  | o :: l, false :: ms, k, listed, a, w, hl, ha, hB, hS, h =>
    anyH_held hs hQ hl0 ha0 l ms (k + 1) listed a w (by simpa using hl) (fun j hj => by have := ha (j + 1) (by simpa using hj); simpa [Nat.add_assoc, Nat.add_comm 1 j] using this) hB hS h

theorem count_all : ∀ ms : List Bool, takenF ms + leftF ms = ms.length
  | [] => rfl
  | true :: ms => by have := count_all ms; simp only [takenF, leftF, List.length_cons]; omega
  | false :: ms => by have := count_all ms; simp only [takenF, leftF, List.length_cons]; omega
end

/-- A region whose operations are written out, and which of them are taken first. -/
theorem wp_region_tail {P : Program} {id : Nat} {Q : Exit → Act → World → Prop} {a : Act} {w : World} {l : List Oper} (S : World → Prop) (ms : List Bool) (hm : P.follows .mixedOrders = true) (hQ : ∀ c a d v w, Q (.panic c) (Act.put a d v) w → Q (.panic c) a w)
    (hl : l.length = ms.length) (hB : (Region.noSelect l.toArray && lexHeld .any l.toArray ms ms 0 (Array.replicate l.length false)) = true)
    (hS : S w.drew) (h : heldF P l.toArray S (fun a' => tailF P l.toArray Q S l ms a' w.drew) l ms a) : (Code.region id l.toArray true).wp P Q a w := by
  rw [Bool.and_eq_true] at hB
  refine wp_region_held_drew (S := S) hm hS (fun _ => ?_)
  have := anyH_held (P := P) (ops := l.toArray) (md := .any) (S := S) (Q := Q) (l0 := l) (all := ms) hB.1 hQ hl (fun j hj => by simp) l ms 0 (Array.replicate l.length false) a w.drew hl (fun j hj => by simp) hB.2 hS h
  rw [count_all ms, ← hl] at this
  simpa using this

/-! The same, what comes behind those that are taken first being told step by step. -/
section
variable {P : Program} {ops : Array Oper} {md : Region.Mode} {S : World → Prop} {Q : Exit → Act → World → Prop}

def listedOf : List Bool → Nat → Array Bool → Array Bool
  | [], _, listed => listed
  | true :: ms, k, listed => listedOf ms (k + 1) (listed.setIfInBounds k true)
  | false :: ms, k, listed => listedOf ms (k + 1) listed
def lexRaw (md : Region.Mode) (ops : Array Oper) : List Bool → Nat → Array Bool → Bool
  | [], _, _ => true
  | true :: ms, k, listed => (Region.ready md ops listed).contains k && Region.free md ops listed k && lexRaw md ops ms (k + 1) (listed.setIfInBounds k true)
  | false :: ms, k, listed => lexRaw md ops ms (k + 1) listed
theorem anyH_raw (f : Nat) (hs : Region.noSelect ops = true) (hQ : ∀ c a d v w, Q (.panic c) (Act.put a d v) w → Q (.panic c) a w) :
    ∀ (l : List Oper) (ms : List Bool) (k : Nat) (listed : Array Bool) (a : Act) (w : World), l.length = ms.length → (∀ j, j < l.length → l[j]? = ops[k + j]?) →
    lexRaw md ops ms k listed = true → S w → heldF P ops S (fun a' => wpAnyH P md ops Q S f (listedOf ms k listed) a' w) l ms a → wpAnyH P md ops Q S (takenF ms + f) listed a w
  | [], [], _, listed, a, w, _, _, _, _, h => by simp only [takenF, Nat.zero_add]; exact h
  | [], _ :: _, _, _, _, _, hl, _, _, _, _ => by simp at hl
  | _ :: _, [], _, _, _, _, hl, _, _, _, _ => by simp at hl
  | o :: l, true :: ms, k, listed, a, w, hl, ha, hB, hS, h => by
    have h0 : ops[k]? = some o := by have := ha 0 (by simp); simpa using this.symm
    simp only [lexRaw, Bool.and_eq_true] at hB
    obtain ⟨⟨hr, hf⟩, hB'⟩ := hB
    obtain ⟨v, hy, hK⟩ := h
    have e : takenF (true :: ms) + f = (takenF ms + f) + 1 := by simp only [takenF]; omega
    rw [e]
    exact wpAnyH_take h0 hs hf hr (fun c a' w' hq => hQ c a' _ _ w' hq) hy hS
      (anyH_raw f hs hQ l ms (k + 1) _ _ w (by simpa using hl) (fun j hj => by have := ha (j + 1) (by simpa using hj); simpa [Nat.add_assoc, Nat.add_comm 1 j] using this) hB' hS hK)
  | o :: l, false :: ms, k, listed, a, w, hl, ha, hB, hS, h =>
    anyH_raw f hs hQ l ms (k + 1) listed a w (by simpa using hl) (fun j hj => by have := ha (j + 1) (by simpa using hj); simpa [Nat.add_assoc, Nat.add_comm 1 j] using this) hB hS h

/-- One alone may come up. -/
theorem anyH_step1 {l : List Oper} {i f : Nat} {o : Oper} {listed : Array Bool} {a : Act} {w : World} (ho : l[i]? = some o) (hr : Region.ready md l.toArray listed = [i])
    (h : ∀ K' : Act → World → Prop, Shut (∀ a w, S w → wpAnyH P md l.toArray Q S f (listed.setIfInBounds i true) a w → K' a w) → if Region.wanted o (yielded l.toArray a.tmps) = true then Oper.wp P o a w K' Q else K' (a.put o.dst undef) w) :
    wpAnyH P md l.toArray Q S (f + 1) listed a w := by
  refine wpAnyH_all (rs := [i]) hr (by simp) (fun j hj => ?_)
  obtain rfl : j = i := by simpa using hj
  exact wpOp_step (by simpa using ho) (fun K' hK => h K' (fun a' w' hS ht => hK a' w' ⟨hS, ht⟩))
/-- One of two may come up. -/
theorem anyH_step2 {l : List Oper} {i j f : Nat} {oi oj : Oper} {listed : Array Bool} {a : Act} {w : World} (hoi : l[i]? = some oi) (hoj : l[j]? = some oj) (hr : Region.ready md l.toArray listed = [i, j])
    (hi : ∀ K' : Act → World → Prop, Shut (∀ a w, S w → wpAnyH P md l.toArray Q S f (listed.setIfInBounds i true) a w → K' a w) → if Region.wanted oi (yielded l.toArray a.tmps) = true then Oper.wp P oi a w K' Q else K' (a.put oi.dst undef) w)
    (hj : ∀ K' : Act → World → Prop, Shut (∀ a w, S w → wpAnyH P md l.toArray Q S f (listed.setIfInBounds j true) a w → K' a w) → if Region.wanted oj (yielded l.toArray a.tmps) = true then Oper.wp P oj a w K' Q else K' (a.put oj.dst undef) w) :
    wpAnyH P md l.toArray Q S (f + 1) listed a w := by
  refine wpAnyH_all (rs := [i, j]) hr (by simp) (fun q hq => ?_)
  rcases List.mem_cons.1 hq with rfl | hq
  · exact wpOp_step (by simpa using hoi) (fun K' hK => hi K' (fun a' w' hS ht => hK a' w' ⟨hS, ht⟩))
  · obtain rfl : q = j := by simpa using hq
    exact wpOp_step (by simpa using hoj) (fun K' hK => hj K' (fun a' w' hS ht => hK a' w' ⟨hS, ht⟩))
end

theorem wp_region_raw {P : Program} {id : Nat} {Q : Exit → Act → World → Prop} {a : Act} {w : World} {l : List Oper} (S : World → Prop) (ms : List Bool) (hm : P.follows .mixedOrders = true) (hQ : ∀ c a d v w, Q (.panic c) (Act.put a d v) w → Q (.panic c) a w)
    (hl : l.length = ms.length) (hB : (Region.noSelect l.toArray && lexRaw .any l.toArray ms 0 (Array.replicate l.length false)) = true)
    (hS : S w.drew) (h : heldF P l.toArray S (fun a' => wpAnyH P .any l.toArray Q S (leftF ms) (listedOf ms 0 (Array.replicate l.length false)) a' w.drew) l ms a) : (Code.region id l.toArray true).wp P Q a w := by
  rw [Bool.and_eq_true] at hB
  refine wp_region_held_drew (S := S) hm hS (fun _ => ?_)
  have := anyH_raw (P := P) (ops := l.toArray) (md := .any) (S := S) (Q := Q) (leftF ms) hB.1 hQ l ms 0 (Array.replicate l.length false) a w.drew hl (fun j hj => by simp) hB.2 hS h
  rw [count_all ms, ← hl] at this
  simpa using this

end Go.Proofs.Ytkefpjbdkhifhaa

namespace Go.Proofs.Ytkefpjbdkhifhaa
open Go.RowKit

def cropG (L : List Int) (w h nw nh : Int) : List Int := if planeB L w h && decide (1 ≤ nw ∧ nw ≤ w) && decide (1 ≤ nh ∧ nh ≤ h) then cropL L w.toNat nw.toNat nh.toNat else []
def shrinkG (L : List Int) (w h nw nh : Int) : List Int := if planeB L w h && decide (1 ≤ nw ∧ nw ≤ w) && decide (1 ≤ nh ∧ nh ≤ h) then shrinkL L w.toNat h.toNat nw.toNat nh.toNat else []
def growG (L : List Int) (w h nw nh : Int) : List Int := if planeB L w h && sidesB nw nh && decide (w ≤ nw) && decide (h ≤ nh) then growL L w.toNat h.toNat nw.toNat nh.toNat else []
def padG (L : List Int) (w h nw nh : Int) : List Int := if planeB L w h && sidesB nw nh && decide (w ≤ nw) && decide (h ≤ nh) then padL L w.toNat h.toNat nw.toNat nh.toNat else []
theorem plane_of {L : List Int} {w h : Int} (e : planeB L w h = true) : (1 ≤ w ∧ w ≤ 1024) ∧ (1 ≤ h ∧ h ≤ 1024) ∧ (L.length : Int) = w * h ∧ w * h ≤ 131072 ∧ ∀ x ∈ L, 0 ≤ x ∧ x ≤ 4095 := by
  unfold planeB sidesB at e
  simp at e
  obtain ⟨⟨⟨⟨h1, h2⟩, h3⟩, h4⟩, h5⟩ := e
  exact ⟨by omega, by omega, h4, h3, h5⟩

theorem append_i16 {w : World} {ops : Array Oper} {rest : List Oper} {o : Oper} {a : Act} {Q : Exit → Act → World → Prop} (hgd : o.guard = none) (s x : Operand)
    (ho : o.op = .call { callee := .builtin .append, args := #[s, x], argTypes := #[24, 24] })
    (B : World) (v : Value) (n : Nat) (xs : List Int) (hs : a.eval s = v) (hown : w.ownsRow B.heap.size 3 1 v n (xs.map (Value.int .i64))) (z : Int) (hx : a.eval x = .slice (some ⟨w.heap.size, 0, none⟩) 1 1)
    (hb : n + 1 ≤ 1000000) (hB : B.grownBy w none)
    (h : ∀ v' w', w'.ownsRow B.heap.size 3 1 v' (n + 1) ((xs ++ [z]).map (Value.int .i64)) → B.grownBy w' none → wpList Try.prog ops Q rest (a.put o.dst v') w') :
    wpList Try.prog ops Q (o :: rest) a (w.alloc (.cells #[.int .i64 z] 3)) := by
  obtain ⟨i0, hi, hz0, hz1, hz2⟩ := info_parts Try.info3
  refine wpList_append_own _ hgd s x 24 ho B.heap.size 3 i0 (.int .i64 0) 1 8 Try.underlying24 hi hz0 hz1 hz2 rfl (by decide) v n _ hs (hown.alloc _) ⟨w.heap.size, 0, none⟩ 1 1 [.int .i64 z] hx rfl (cell_one_new _ _ _) (by intro u hu; simp at hu; subst hu; rfl) (by unfold maxLen; omega) (by omega) (by have := hB.size; simp; omega) ?_
  intro v' w' h1 h2 _
  refine h v' w' (by rw [List.map_append]; exact h1) (grown_new (grown_alloc hB _) h2 (fun g e => (hown.lt g e).1))
theorem step_append_i16 {w : World} {ops : Array Oper} {o : Oper} {a : Act} {K : Act → World → Prop} {Q : Exit → Act → World → Prop} {E : Prop} (hgd : o.guard = none) (s x : Operand)
    (ho : o.op = .call { callee := .builtin .append, args := #[s, x], argTypes := #[24, 24] })
    (base : Nat) (v : Value) (L : List Int) (hs : a.eval s = v) (hown : w.ownsRow base 3 1 v L.length (L.map (Value.int .i64))) (t : Int) (hx : a.eval x = .slice (some ⟨w.heap.size, 0, none⟩) 1 1) (hb : L.length ≤ 900000) (hbase : base ≤ w.heap.size) (R : List Int) (hR : L ++ [t] = R)
    (h : ∀ v' w', w'.ownsRow base 3 1 v' R.length (R.map (Value.int .i64)) → w.grownBy w' v.ownBlock → (v'.ownBlock = v.ownBlock ∨ ∀ g, v'.ownBlock = some g → w.heap.size ≤ g) → K (a.put o.dst v') w') :
    if Region.wanted o (yielded ops a.tmps) = true then Oper.wp Try.prog o a (w.alloc (.cells #[.int .i64 t] 3)) K Q else E := by
  subst hR
  obtain ⟨i0, hi, hz0, hz1, hz2⟩ := info_parts info_iS
  refine step_append_lies _ hgd s x 24 ho base 3 i0 (.int .i64 0) 1 8 Try.underlying24 hi hz0 hz1 hz2 rfl (by decide) v L.length _ hs (hown.alloc _) ⟨w.heap.size, 0, none⟩ 1 1 [.int .i64 t] hx rfl (World.news_of_block (cs := #[.int .i64 t]) (t := 3) (fr := (0, 0)) (heap_alloc_new w _)) (by intro u hu; simp at hu; subst hu; rfl) (by omega) (by unfold maxLen; omega) (by omega) (by simp; omega) _ rfl ?_
  intro g cap w' h1 h2 h4 _
  refine h _ w' (by rw [List.map_append, List.length_append]; exact h1) ⟨h2.os, h2.tape, h2.output, by have h := h2.size; simp at h; omega, fun k hk hr => (h2.block k (by simp; omega) hr).trans (Below.heap_alloc _ _ _ hk)⟩ ?_
  rcases h4 with h4 | h4
  · exact .inl h4.symm
  · refine .inr fun q e => ?_
    have e2 : g = q := Option.some.inj e
    simp at h4
    omega

end Go.Proofs.Ytkefpjbdkhifhaa

namespace Go.Proofs.Ytkefpjbdkhifhaa
open Go.RowKit

theorem between (n lo hi : Int) (t : Bool) (ht : Hid (decide (lo ≤ n ∧ n ≤ hi) = t)) (w : World) :
    Calls Try.prog 47 #[.int .i64 n, .int .i64 lo, .int .i64 hi] w fun e w' => e = .returned (.bool t) ∧ w' = w := by
  by_cases h1 : lo ≤ n
  · by_cases h2 : n ≤ hi
    · have e : t = true := by rw [← unhide ht]; simp [h1, h2]
      subst e
      go_enter Try.func47, Try.ntmps47
      go_wp2
      go_ret
      exact ⟨by simp, rfl⟩
    · have e : t = false := by rw [← unhide ht]; simp [h2]
      subst e
      go_enter Try.func47, Try.ntmps47
      go_wp2
      go_ret
      exact ⟨by simp, rfl⟩
  · have e : t = false := by rw [← unhide ht]; simp [h1]
    subst e
    have hd : decide (lo ≤ n) = false := by simpa using h1
    go_enter Try.func47, Try.ntmps47
    go_wp2
    go_ret
    exact ⟨rfl, rfl⟩

end Go.Proofs.Ytkefpjbdkhifhaa
