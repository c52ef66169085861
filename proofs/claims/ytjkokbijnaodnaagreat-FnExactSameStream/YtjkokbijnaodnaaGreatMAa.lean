/-
  Kit, FramePure, FrameImpl, FrameImpl2, RowsK, FrameImpl3, FrameAid, Tree, DeepC.
-/
import Derived.WalkKit
import Derived.ProofKit
import Derived.Below
import Derived.WalkSpells
import Derived.Deep.QuietTactic
import Derived.BigQuiet
import Derived.Deep.RegionWith
import Derived.Test.YtjkokbijnaodnaaGreatRows
import Derived.Deep.WholeRow
import Derived.Deep.MidRow
import Derived.Laws.CopyOwn
import Derived.Laws.ResultCell
import Derived.OpenShut
import Derived.Deep.SlicePairs

namespace Go.Proofs.YtjkokbijnaodnaaGreat
open Go.RowKit

/-- What is read through a slice of numbers: cell i behind its head holds number i. -/
def Rd (k : IntKind) (w : World) (ao : Option Addr) (n : Nat) (zs : List Int) : Prop :=
  zs.length = n ∧ ∀ i, i < n → ∃ b off, ao = some ⟨b, off, none⟩ ∧ w.cell? ⟨b, off + i, none⟩ = some (.int k (zs.getD i 0))

theorem hide {p : Prop} (h : p) : Hid p := h
theorem unhide {p : Prop} (h : Hid p) : p := h

theorem i64_in (n : Int) (h : -9223372036854775808 ≤ n ∧ n ≤ 9223372036854775807) : IntKind.i64.wrap n = n := by
  rw [IntKind.wrap_i64]; omega
theorem ret_bool {a b : Bool} (h : a = b) : Ending.returned (.bool a) = .returned (.bool b) := by rw [h]

theorem grown_trans {a b c : World} {row : Option Nat} (h : a.grownBy b row) (g : b.grownBy c row) : a.grownBy c row :=
  ⟨g.os.trans h.os, g.tape.trans h.tape, g.output.trans h.output, Nat.le_trans h.size g.size, fun k hk hr => (g.block k (Nat.lt_of_lt_of_le hk h.size) hr).trans (h.block k hk hr)⟩

/-- A world that has grown by new rows alone, and then by writes into one of these. -/
theorem grown_new {a b c : World} {row : Option Nat} (h : a.grownBy b none) (hg : b.grownBy c row) (hge : ∀ g, row = some g → a.heap.size ≤ g) : a.grownBy c none :=
  ⟨hg.os.trans h.os, hg.tape.trans h.tape, hg.output.trans h.output, Nat.le_trans h.size hg.size, fun k hk hr => (hg.block k (Nat.lt_of_lt_of_le hk h.size) (by intro e; have := hge k e.symm; omega)).trans (h.block k hk hr)⟩

theorem grown_alloc {a b : World} (h : a.grownBy b none) (o : Obj) : a.grownBy (b.alloc o) none := grown_trans h (World.grownBy_alloc _ _ _)
theorem grown_any {a b : World} {row : Option Nat} (h : a.grownBy b none) : a.grownBy b row := ⟨h.os, h.tape, h.output, h.size, fun k hk _ => h.block k hk (by simp)⟩
theorem grown_drewN {a b : World} {row : Option Nat} (h : a.grownBy b row) (q : Nat) : a.grownBy (b.drewN q) row := ⟨h.os, h.tape, h.output, h.size, h.block⟩
theorem grown_drew {a b : World} {row : Option Nat} (h : a.grownBy b row) : a.grownBy b.drew row := ⟨h.os, h.tape, h.output, h.size, h.block⟩
theorem grown_below {a b : World} (h : a.grownBy b none) : Below a.heap.size a b := ⟨h.os, h.tape, h.output, h.size, fun k hk => h.block k hk (by simp)⟩

theorem Rd.grown {k : IntKind} {w w' : World} {ao : Option Addr} {n : Nat} {zs : List Int} (h : Rd k w ao n zs) (hg : w.grownBy w' none) : Rd k w' ao n zs :=
  ⟨h.1, fun i hi => by obtain ⟨b, off, e, hc⟩ := h.2 i hi; exact ⟨b, off, e, hg.cell hc (by simp)⟩⟩
/-- What is read stays when a row beside it is written. -/
theorem Rd.beside {k : IntKind} {w w' : World} {ao : Option Addr} {n g : Nat} {zs : List Int} (h : Rd k w ao n zs) (hg : w.grownBy w' (some g)) (hne : 0 < n → ∀ b off, ao = some ⟨b, off, none⟩ → b ≠ g) : Rd k w' ao n zs :=
  ⟨h.1, fun i hi => by obtain ⟨b, off, e, hc⟩ := h.2 i hi; exact ⟨b, off, e, hg.cell hc (by simp; exact hne (by omega) b off e)⟩⟩
theorem Rd.lt {k : IntKind} {w : World} {ao : Option Addr} {n : Nat} {zs : List Int} (h : Rd k w ao n zs) : 0 < n → ∀ b off, ao = some ⟨b, off, none⟩ → b < w.heap.size := by
  intro hn b off e
  obtain ⟨b', off', e', hc⟩ := h.2 0 hn
  rw [e] at e'
  simp at e'
  rw [e'.1]
  exact World.block_lt_of_cell? w _ hc
theorem Rd.drewN {k : IntKind} {w : World} {ao : Option Addr} {n : Nat} {zs : List Int} (h : Rd k w ao n zs) (q : Nat) : Rd k (w.drewN q) ao n zs := h

/-- A slice that came in, as the row's step hands it over. -/
theorem rd_of_row {K : IntKind} {w : World} {x : Addr} {n cap : Nat} {zs : List Int} (hl : n ≤ cap) (hz : zs.length = cap) (hcell : ∀ i, i < zs.length → w.cell? (x.add i) = some (.int K (zs.getD i 0))) : Rd K w (some x) n (zs.take n) := by
  refine ⟨by simp; omega, fun i hi => ?_⟩
  obtain ⟨b, off, spot⟩ := x
  have hc := hcell i (by omega)
  have hspot : spot = none := by simpa [Addr.add] using World.cell?_spot (hcell 0 (by omega))
  subst hspot
  refine ⟨b, off, rfl, ?_⟩
  have e : (zs.take n).getD i 0 = zs.getD i 0 := by simp [hi]
  rw [e]
  rw [Addr.add_lit] at hc
  exact hc

/-- What lies between two bounds, with nought between them, does so wherever it is asked for. -/
theorem take_within {zs : List Int} {lo hi : Int} (h : ∀ q ∈ zs, lo ≤ q ∧ q ≤ hi) (n i : Nat) (h0 : lo ≤ 0 ∧ 0 ≤ hi) : lo ≤ (zs.take n).getD i 0 ∧ (zs.take n).getD i 0 ≤ hi := by
  by_cases hi' : i < (zs.take n).length
  · have e : (zs.take n).getD i 0 = (zs.take n)[i] := by rw [List.getD_eq_getElem?_getD, List.getElem?_eq_getElem hi']; rfl
    rw [e]
    exact h _ (List.mem_of_mem_take (List.getElem_mem hi'))
  · have e : (zs.take n).getD i 0 = 0 := by rw [List.getD_eq_getElem?_getD, List.getElem?_eq_none (by omega)]; rfl
    rw [e]
    exact h0

section
variable {w : World} {base : Nat} {e : TypeId} {ao : Option Addr} {n cap : Nat}

theorem own_form {v : Value} {size : Nat} {xs : List Value} (h : w.ownsRow base e size v n xs) : ∃ ao cap, v = .slice ao n cap := by
  rcases h.2 with ⟨h1, h2⟩ | ⟨g, cap, _, h1, _⟩
  · subst h2; exact ⟨_, _, h1⟩
  · exact ⟨_, _, h1⟩

theorem own_at {size : Nat} {xs : List Value} (h : w.ownsRow base e size (.slice ao n cap) n xs) (hn : 0 < n) : ∃ g, ao = some ⟨g, 0, none⟩ ∧ base ≤ g ∧ g < w.heap.size := by
  rcases h.2 with ⟨_, h2⟩ | ⟨g, cap', _, h1, hb, hh, _⟩
  · omega
  · simp only [Value.slice.injEq, true_and] at h1
    exact ⟨g, h1.1, hb, by obtain ⟨h, _⟩ := Array.getElem?_eq_some_iff.1 hh; exact h⟩

theorem own_rd {k : IntKind} {zs : List Int} (h : w.ownsRow base e 1 (.slice ao n cap) n (zs.map (Value.int k))) : Rd k w ao n zs := by
  have hl : zs.length = n := by have := h.1; simpa using this
  refine ⟨hl, fun i hi => ?_⟩
  obtain ⟨g, rfl, _, _⟩ := own_at h (by omega)
  refine ⟨g, 0, rfl, ?_⟩
  rw [Nat.zero_add, h.cellAt i (by omega)]
  simp [show i < zs.length by omega]

theorem own_drewN {v : Value} {size : Nat} {xs : List Value} (h : w.ownsRow base e size v n xs) (q : Nat) : (w.drewN q).ownsRow base e size v n xs := h

theorem own_base {v : Value} {size base' : Nat} {xs : List Value} (h : w.ownsRow base e size v n xs) (hb : base' ≤ base) : w.ownsRow base' e size v n xs :=
  by
  rcases h with ⟨h0, h1 | ⟨g, cap, cur, h1, h2, r⟩⟩
  · exact ⟨h0, .inl h1⟩
  · exact ⟨h0, .inr ⟨g, cap, cur, h1, by omega, r⟩⟩

/-- What is owned stays owned when only new rows come. -/
theorem own_grown {w' : World} {v : Value} {size : Nat} {xs : List Value} (h : w.ownsRow base e size v n xs) (hg : w.grownBy w' none) : w'.ownsRow base e size v n xs :=
  h.kept (grown_any hg (row := none)) (by cases hv : v.ownBlock <;> simp)

/-- What is owned from a higher number on stays owned when a lower row is written. -/
theorem own_above {w' : World} {v u : Value} {size : Nat} {xs : List Value} (h : w.ownsRow base e size v n xs) (hg : w.grownBy w' u.ownBlock)
    (hlt : ∀ g, u.ownBlock = some g → g < base) : w'.ownsRow base e size v n xs :=
  h.kept hg (by
    cases hv : v.ownBlock with
    | none => exact .inl rfl
    | some g => refine .inr (fun e => ?_); have := hlt g e.symm; have := (h.lt g hv).1; omega)

/-- What is owned by rows below a number stays owned when a row from that number on is written. -/
theorem own_beneath {w' : World} {v : Value} {size : Nat} {row : Option Nat} {xs : List Value} (h : w.ownsRow base e size v n xs) (hg : w.grownBy w' row)
    (hlt : ∀ g g', v.ownBlock = some g → row = some g' → g ≠ g') : w'.ownsRow base e size v n xs :=
  h.kept hg (by
    cases hv : v.ownBlock with
    | none => exact .inl rfl
    | some g =>
      refine .inr (fun e => ?_)
      exact hlt g g hv e.symm rfl)
end

/-- What a copy holds behind k rounds. -/
def part (K : IntKind) (zs : List Int) (k : Nat) : List Value := (zs.take k).map (Value.int K) ++ List.replicate (zs.length - k) (.int K 0)

theorem part_zero (K : IntKind) (zs : List Int) : part K zs 0 = List.replicate zs.length (.int K 0) := by simp [part]
theorem part_all (K : IntKind) (zs : List Int) : part K zs zs.length = zs.map (Value.int K) := by simp [part]
theorem part_len (K : IntKind) (zs : List Int) (k : Nat) (h : k ≤ zs.length) : (part K zs k).length = zs.length := by simp [part]; omega
theorem part_get (K : IntKind) (zs : List Int) (k j : Nat) (hk : k ≤ zs.length) (hj : j < zs.length) : (part K zs k)[j]? = some (.int K (if j < k then zs.getD j 0 else 0)) := by
  unfold part
  by_cases h : j < k
  · rw [List.getElem?_append_left (by simp; omega)]
    simp [h, hj]
  · rw [List.getElem?_append_right (by simp; omega), List.getElem?_replicate, if_pos (by simp; omega), if_neg h]
theorem part_set (K : IntKind) (zs : List Int) (k : Nat) (h : k < zs.length) : (part K zs k).set k (.int K (zs.getD k 0)) = part K zs (k + 1) := by
  apply List.ext_getElem?
  intro j
  by_cases hj : j < zs.length
  · rw [List.getElem?_set, part_get K zs (k + 1) j (by omega) hj, part_get K zs k j (by omega) hj, part_len K zs k (by omega)]
    by_cases e : k = j
    · subst e; simp [h]
    · rw [if_neg e]
      by_cases h1 : j < k
      · rw [if_pos h1, if_pos (by omega)]
      · rw [if_neg h1, if_neg (by omega)]
  · rw [List.getElem?_eq_none (by rw [List.length_set, part_len K zs k (by omega)]; omega), List.getElem?_eq_none (by rw [part_len K zs (k + 1) (by omega)]; omega)]

/-- The marks that are laid over a row, from k on, each as its kind holds it. -/
def marks (K : IntKind) (k : Int) (n : Nat) : List Int := (List.range n).map (fun i : Nat => K.wrap (k + (i : Int)))
theorem marks_len (K : IntKind) (k : Int) (n : Nat) : (marks K k n).length = n := by simp [marks]
theorem marks_get (K : IntKind) (k : Int) (n i : Nat) (h : i < n) : (marks K k n).getD i 0 = K.wrap (k + i) := by simp [marks, h]

/-- A row behind j rounds of marking. -/
def over (K : IntKind) (k : Int) (xs : List Value) (j : Nat) : List Value := (marks K k j).map (Value.int K) ++ xs.drop j
theorem over_zero (K : IntKind) (k : Int) (xs : List Value) : over K k xs 0 = xs := by simp [over, marks]
theorem over_all (K : IntKind) (k : Int) (xs : List Value) : over K k xs xs.length = (marks K k xs.length).map (Value.int K) := by simp [over]
theorem over_set (K : IntKind) (k : Int) (xs : List Value) (j : Nat) (h : j < xs.length) : (over K k xs j).set j (.int K (K.wrap (k + j))) = over K k xs (j + 1) := by
  unfold over
  rw [List.set_append_right _ _ (by simp [marks_len])]
  have e : marks K k (j + 1) = marks K k j ++ [K.wrap (k + j)] := by simp [marks, List.range_succ]
  rw [e, List.map_append, List.append_assoc]
  congr 1
  rw [List.length_map, marks_len, Nat.sub_self, List.drop_eq_getElem_cons h]
  rfl

theorem grown_set (w : World) (g j : Nat) (u : Value) : w.grownBy (w.setCell ⟨g, j, none⟩ u) (some g) :=
  ⟨rfl, rfl, rfl, by simp, fun k _ hk => heap_setCell_other w ⟨g, j, none⟩ k u (fun e => hk (by simp [e]))⟩

theorem grown_set' (w : World) (q g j : Nat) (u : Value) : w.grownBy ((w.drewN q).setCell ⟨g, j, none⟩ u) (some g) := grown_trans (grown_drewN (World.grownBy.refl _ _) q) (grown_set _ _ _ _)

theorem drop_at (zs : List Int) (k : Nat) (h : k < zs.length) : zs.drop k = zs.getD k 0 :: zs.drop (k + 1) := by
  rw [List.drop_eq_getElem_cons h]; simp [h]

theorem and1_i64 (x : Int) (h0 : 0 ≤ x) (h1 : x < 9223372036854775808) : bits BinOp.and IntKind.i64 x 1 = x % 2 := by
  have e63 : (2 : Int) ^ 63 = 9223372036854775808 := by decide
  have h := bits_mask .i64 63 (by decide) (fun n h0 h1 => by rw [e63] at h1; rw [IntKind.wrap_i64]; omega) 1 (by decide) x h0 (by rw [e63]; omega)
  have e : ((2 : Int) ^ 1 - 1) = 1 := by decide
  rw [e] at h
  rw [h]
  rfl
theorem and1_u8 (x : Int) (h0 : 0 ≤ x) (h1 : x < 256) : bits BinOp.and IntKind.u8 x 1 = x % 2 := by
  have e8 : (2 : Int) ^ 8 = 256 := by decide
  have h := bits_mask .u8 8 (by decide) (fun n h0 h1 => by rw [e8] at h1; rw [IntKind.wrap_u8]; omega) 1 (by decide) x h0 (by rw [e8]; omega)
  have e : ((2 : Int) ^ 1 - 1) = 1 := by decide
  rw [e] at h
  rw [h]
  rfl
theorem shr_bound (x : Int) (h0 : 0 ≤ x) (h1 : x ≤ 255) (s : Nat) : 0 ≤ x / 2 ^ s ∧ x / 2 ^ s < 256 := by
  have hp : (0 : Int) < 2 ^ s := Int.pow_pos (by decide)
  have h2 := Int.ediv_nonneg h0 (Int.le_of_lt hp)
  have h3 := Int.ediv_le_self (2 ^ s) h0
  omega
theorem ret_int {k : IntKind} {a b : Int} (h : a = b) : Ending.returned (.int k a) = .returned (.int k b) := by rw [h]

theorem shr_small (x : Int) (h0 : 0 ≤ x) (h1 : x < 65536) (s : Nat) : 0 ≤ x / 2 ^ s ∧ x / 2 ^ s < 65536 := by
  have hp : (0 : Int) < 2 ^ s := Int.pow_pos (by decide)
  have h2 := Int.ediv_nonneg h0 (Int.le_of_lt hp)
  have h3 := Int.ediv_le_self (2 ^ s) h0
  omega

theorem pow_small (x : Int) (h1 : x ≤ 16) : (1 : Int) ≤ 2 ^ x.toNat ∧ (2 : Int) ^ x.toNat ≤ 65536 := by
  have h : x.toNat ≤ 16 := by omega
  generalize x.toNat = m at h
  have h3 : (2 : Nat) ^ m ≤ 2 ^ 16 := Nat.pow_le_pow_right (by omega) h
  have h4 : 1 ≤ (2 : Nat) ^ m := Nat.one_le_two_pow
  have e : ((2 : Nat) ^ m : Int) = (2 : Int) ^ m := by norm_cast
  omega
theorem shl_sub (x : Int) (h1 : x ≤ 16) : wrap64 (wrap64 (2 ^ x.toNat) - 1) = 2 ^ x.toNat - 1 := by
  have h := pow_small x h1
  rw [IntWalk.wrap64_in (2 ^ x.toNat) (by omega), IntWalk.wrap64_in (2 ^ x.toNat - 1) (by omega)]

end Go.Proofs.YtjkokbijnaodnaaGreat

namespace Go.Proofs.YtjkokbijnaodnaaGreat
open Go.RowKit

def compB (c : Nat → Int) : Bool := decide (0 ≤ c 0 ∧ c 0 ≤ 255) && (decide (1 ≤ c 1 ∧ c 1 ≤ 4) && (decide (1 ≤ c 2 ∧ c 2 ≤ 4) && decide (0 ≤ c 3 ∧ c 3 ≤ 3)))
/-- Whether one of the first m components has the Id of component k. -/
def idIn (C : Nat → Nat → Int) (k : Nat) : Nat → Bool
  | 0 => false
  | m + 1 => idIn C k m || (C m 0 == C k 0)
def okTo (C : Nat → Nat → Int) : Nat → Bool
  | 0 => true
  | k + 1 => okTo C k && (compB (C k) && !idIn C k k)
def sumHV (C : Nat → Nat → Int) : Nat → Int
  | 0 => 0
  | k + 1 => sumHV C k + C k 1 * C k 2
def headB (p wd ht rs : Int) : Bool := (p == 8 || p == 12) && (decide (1 ≤ wd ∧ wd ≤ 256) && (decide (1 ≤ ht ∧ ht ≤ 256) && (decide (wd * ht ≤ 16384) && decide (0 ≤ rs ∧ rs ≤ 255))))
def compsB (n : Nat) (C : Nat → Nat → Int) : Bool := decide (1 ≤ (n : Int) ∧ (n : Int) ≤ 4) && (okTo C n && decide (sumHV C n ≤ 10))
def frameB (p wd ht rs : Int) (n : Nat) (C : Nat → Nat → Int) : Bool := headB p wd ht rs && compsB n C

theorem okTo_false {C : Nat → Nat → Int} {k : Nat} (h : okTo C k = false) : ∀ n, k ≤ n → okTo C n = false := by
  intro n hn
  induction n with
  | zero => obtain rfl : k = 0 := by omega
            exact h
  | succ n ih =>
    by_cases e : k = n + 1
    · subst e; exact h
    · simp [okTo, ih (by omega)]
theorem okTo_true {C : Nat → Nat → Int} {n : Nat} (h : okTo C n = true) : ∀ k, k ≤ n → okTo C k = true := by
  intro k hk
  cases hc : okTo C k with
  | true => rfl
  | false => rw [okTo_false hc n hk] at h; exact h
theorem compB_bounds {c : Nat → Int} (h : compB c = true) : (0 ≤ c 0 ∧ c 0 ≤ 255) ∧ (1 ≤ c 1 ∧ c 1 ≤ 4) ∧ (1 ≤ c 2 ∧ c 2 ≤ 4) ∧ 0 ≤ c 3 ∧ c 3 ≤ 3 := by
  simpa [compB] using h
theorem mul_small {a b : Int} (ha : 1 ≤ a ∧ a ≤ 4) (hb : 1 ≤ b ∧ b ≤ 4) : 1 ≤ a * b ∧ a * b ≤ 16 := by
  obtain ⟨a0, a1⟩ := ha
  have : a = 1 ∨ a = 2 ∨ a = 3 ∨ a = 4 := by omega
  rcases this with rfl | rfl | rfl | rfl <;> omega
theorem mul_side {a b : Int} (ha : 1 ≤ a ∧ a ≤ 256) (hb : 1 ≤ b ∧ b ≤ 256) : 1 ≤ a * b ∧ a * b ≤ 65536 := by
  obtain ⟨a0, a1⟩ := ha
  obtain ⟨b0, b1⟩ := hb
  have h1 : 1 * 1 ≤ a * b := Int.mul_le_mul a0 b0 (by omega) (by omega)
  have h2 : a * b ≤ 256 * 256 := Int.mul_le_mul a1 b1 (by omega) (by omega)
  omega
theorem sumHV_bounds {C : Nat → Nat → Int} : ∀ k, okTo C k = true → 0 ≤ sumHV C k ∧ sumHV C k ≤ 16 * k
  | 0, _ => by simp [sumHV]
  | k + 1, h => by
    simp only [okTo, Bool.and_eq_true] at h
    have ih := sumHV_bounds k h.1
    obtain ⟨_, h1, h2, _⟩ := compB_bounds h.2.1
    have := mul_small h1 h2
    simp only [sumHV]
    omega
theorem idIn_congr {C D : Nat → Nat → Int} {k : Nat} (hk : C k = D k) : ∀ m, (∀ i, i < m → C i = D i) → idIn C k m = idIn D k m
  | 0, _ => rfl
  | m + 1, h => by simp only [idIn]; rw [idIn_congr hk m (fun i hi => h i (by omega)), h m (by omega), hk]
theorem okTo_congr {C D : Nat → Nat → Int} : ∀ k, (∀ i, i < k → C i = D i) → okTo C k = okTo D k
  | 0, _ => rfl
  | k + 1, h => by
    simp only [okTo]
    rw [okTo_congr k (fun i hi => h i (by omega)), h k (by omega), idIn_congr (h k (by omega)) k (fun i hi => h i (by omega))]
theorem sumHV_congr {C D : Nat → Nat → Int} : ∀ k, (∀ i, i < k → C i = D i) → sumHV C k = sumHV D k
  | 0, _ => rfl
  | k + 1, h => by simp only [sumHV]; rw [sumHV_congr k (fun i hi => h i (by omega)), h k (by omega)]
theorem compsB_congr {C D : Nat → Nat → Int} {n : Nat} (h : n ≤ 4 → ∀ i, i < n → C i = D i) : compsB n C = compsB n D := by
  by_cases hn : n ≤ 4
  · simp only [compsB]; rw [okTo_congr n (h hn), sumHV_congr n (h hn)]
  · have e : decide (1 ≤ (n : Int) ∧ (n : Int) ≤ 4) = false := by simp; omega
    simp only [compsB, e, Bool.false_and]
theorem idIn_true {C : Nat → Nat → Int} {k m : Nat} (h : (C m 0 == C k 0) = true) : ∀ n, m < n → idIn C k n = true := by
  intro n hn
  induction n with
  | zero => omega
  | succ n ih =>
    by_cases e : m = n
    · subst e; simp only [idIn, h, Bool.or_true]
    · simp only [idIn, ih (by omega), Bool.true_or]
theorem headB_facts {p wd ht rs : Int} (h : headB p wd ht rs = true) : (p = 8 ∨ p = 12) ∧ (1 ≤ wd ∧ wd ≤ 256) ∧ (1 ≤ ht ∧ ht ≤ 256) ∧ wd * ht ≤ 16384 ∧ 0 ≤ rs ∧ rs ≤ 255 := by
  simpa [headB] using h

end Go.Proofs.YtjkokbijnaodnaaGreat

namespace Go.Proofs.YtjkokbijnaodnaaGreat
open Go.RowKit

theorem wpList_load_row {P : Program} {ops : Array Oper} {rest : List Oper} {op : Oper} {a : Act} {w : World} {Q : Exit → Act → World → Prop} (hw : Region.wanted op (yielded ops a.tmps) = true) (ty : TypeId) (x : Operand) (ho : op.op = .load ty x)
    (b : Nat) (hx : a.eval x = .pointer (some ⟨b, 0, none⟩)) (X : Array Value) (t : TypeId) (hb : w.heap[b]? = some (.cells X t (0, 0))) (d : TypeDesc)
    (hu : P.underlying ty = some d) (hd : d.isRow = true) (hi : (P.info? ty).map (·.size) = some X.size)
    (h : wpList P ops Q rest (a.put op.dst (.agg X)) w) : wpList P ops Q (op :: rest) a w :=
  BigFrame.wpList_want hw fun _ hK => wp_load_mid ty x ho b 0 hx X.toList d (fun j v hv => by rw [cell_of_row w b (0 + j) X t (0, 0) hb]; simpa using hv) hu hd (by simpa using hi) (hK _ _ (by simpa using h))

/-- The cells of a frame with its components inside. -/
structure Fx (X : Array Value) (p wd ht rs n : Int) (C : Nat → Nat → Int) : Prop where
  size : X.size = 21
  c0 : X[0]? = some (.int .i64 p)
  c1 : X[1]? = some (.int .i64 wd)
  c2 : X[2]? = some (.int .i64 ht)
  c3 : X[3]? = some (.int .i64 rs)
  c4 : X[4]? = some (.int .i64 n)
  comp : ∀ i j, i < 4 → j < 4 → X[5 + i * 4 + j]? = some (.int .i64 (C i j))

theorem inRange (n lo hi : Int) (t : Bool) (ht : Hid (decide (lo ≤ n ∧ n ≤ hi) = t)) (w : World) :
    Calls Tryz.prog 69 #[.int .i64 n, .int .i64 lo, .int .i64 hi] w fun e w' => e = .returned (.bool t) ∧ w = w' := by
  by_cases h1 : lo ≤ n
  · by_cases h2 : n ≤ hi
    · have e : t = true := by rw [← unhide ht]; simp [h1, h2]
      subst e
      go_enter Tryz.func69, Tryz.ntmps69
      go_wp2
      go_ret
      exact ⟨by simp, rfl⟩
    · have e : t = false := by rw [← unhide ht]; simp [h2]
      subst e
      go_enter Tryz.func69, Tryz.ntmps69
      go_wp2
      go_ret
      exact ⟨by simp, rfl⟩
  · have e : t = false := by rw [← unhide ht]; simp [h1]
    subst e
    have hd : decide (lo ≤ n) = false := by simpa using h1
    go_enter Tryz.func69, Tryz.ntmps69
    go_wp2
    go_ret
    exact ⟨rfl, rfl⟩

set_option maxHeartbeats 800000 in
theorem isNone_no (X : Array Value) (p wd ht rs n : Int) (C : Nat → Nat → Int) (hX : Fx X p wd ht rs n C) (hp : (p == 0) = false) (w : World) :
    Calls Tryz.prog 66 #[.agg X] w fun e w' => e = .returned (.bool false) ∧ w.grownBy w' none := by
  have hs := hX.size
  have h0 := hX.c0
  have h0' : X[0] = .int .i64 p := by rw [Array.getElem?_eq_getElem (by omega)] at h0; simpa using h0
  go_enter Tryz.func66, Tryz.ntmps66
  go_wp2_with (refine wpList_load_row rfl 83 _ rfl w.heap.size rfl X 83 (heap_alloc_new _ _) _ Tryz.underlying83 rfl (by rw [hs]; kernel_rfl) ?_)
  go_ret
  exact ⟨rfl, grown_alloc (World.grownBy.refl _ _) _⟩

theorem eqComps (w : World) : (Op.equalIn 9999 81 (.agg #[.int .i64 0, .int .i64 0, .int .i64 0, .int .i64 0, .int .i64 0, .int .i64 0, .int .i64 0, .int .i64 0, .int .i64 0, .int .i64 0, .int .i64 0, .int .i64 0, .int .i64 0, .int .i64 0, .int .i64 0, .int .i64 0]) (.agg #[.int .i64 0, .int .i64 0, .int .i64 0, .int .i64 0, .int .i64 0, .int .i64 0, .int .i64 0, .int .i64 0, .int .i64 0, .int .i64 0, .int .i64 0, .int .i64 0, .int .i64 0, .int .i64 0, .int .i64 0, .int .i64 0])).run Tryz.prog w = .ok true w := by kernel_rfl
theorem eqNought (w : World) : (Op.equalIn 9999 3 (.int .i64 0) (.int .i64 0)).run Tryz.prog w = .ok true w := by kernel_rfl

set_option maxHeartbeats 800000 in
theorem isNone_yes (w : World) :
    Calls Tryz.prog 66 #[.agg #[.int .i64 0, .int .i64 0, .int .i64 0, .int .i64 0, .int .i64 0, .int .i64 0, .int .i64 0, .int .i64 0, .int .i64 0, .int .i64 0, .int .i64 0, .int .i64 0, .int .i64 0, .int .i64 0, .int .i64 0, .int .i64 0, .int .i64 0, .int .i64 0, .int .i64 0, .int .i64 0, .int .i64 0]] w fun e w' => e = .returned (.bool true) ∧ w.grownBy w' none := by
  obtain ⟨X, hX⟩ : ∃ X, X = (#[.int .i64 0, .int .i64 0, .int .i64 0, .int .i64 0, .int .i64 0, .int .i64 0, .int .i64 0, .int .i64 0, .int .i64 0, .int .i64 0, .int .i64 0, .int .i64 0, .int .i64 0, .int .i64 0, .int .i64 0, .int .i64 0, .int .i64 0, .int .i64 0, .int .i64 0, .int .i64 0, .int .i64 0] : Array Value) := ⟨_, rfl⟩
  have hs : X.size = 21 := by rw [hX]; rfl
  have h0 : X[0] = .int .i64 0 := by subst hX; rfl
  have h1 : X[1] = .int .i64 0 := by subst hX; rfl
  have h2 : X[2] = .int .i64 0 := by subst hX; rfl
  have h3 : X[3] = .int .i64 0 := by subst hX; rfl
  have h4 : X[4] = .int .i64 0 := by subst hX; rfl
  have h5 : X.extract 5 21 = #[.int .i64 0, .int .i64 0, .int .i64 0, .int .i64 0, .int .i64 0, .int .i64 0, .int .i64 0, .int .i64 0, .int .i64 0, .int .i64 0, .int .i64 0, .int .i64 0, .int .i64 0, .int .i64 0, .int .i64 0, .int .i64 0] := by subst hX; rfl
  have e3 := eqNought
  have e48 := eqComps
  rw [← hX]
  clear hX
  go_enter Tryz.func66, Tryz.ntmps66
  go_wp2_with (refine wpList_load_row rfl 83 _ rfl w.heap.size rfl X 83 (heap_alloc_new _ _) _ Tryz.underlying83 rfl (by rw [hs]; kernel_rfl) ?_)
  go_ret
  exact ⟨rfl, grown_alloc (World.grownBy.refl _ _) _⟩

set_option maxHeartbeats 800000 in
theorem headOk (X : Array Value) (p wd ht rs n : Int) (C : Nat → Nat → Int) (hX : Fx X p wd ht rs n C) (t : Bool) (HT : Hid (headB p wd ht rs = t)) (w : World) :
    Calls Tryz.prog 83 #[.agg X] w fun e w' => e = .returned (.bool t) ∧ w.grownBy w' none := by
  have hs := hX.size
  have h0 := hX.c0
  have h1 := hX.c1
  have h2 := hX.c2
  have h3 := hX.c3
  have h0' : X[0] = .int .i64 p := by rw [Array.getElem?_eq_getElem (by omega)] at h0; simpa using h0
  have h1' : X[1] = .int .i64 wd := by rw [Array.getElem?_eq_getElem (by omega)] at h1; simpa using h1
  have h2' : X[2] = .int .i64 ht := by rw [Array.getElem?_eq_getElem (by omega)] at h2; simpa using h2
  have h3' : X[3] = .int .i64 rs := by rw [Array.getElem?_eq_getElem (by omega)] at h3; simpa using h3
  have hcase : (p = 8 ∨ p = 12) ∨ ((p != 8) = true ∧ (p != 12) = true ∧ (p == 8) = false ∧ (p == 12) = false) := by
    by_cases e8 : p = 8
    · exact .inl (.inl e8)
    · by_cases e12 : p = 12
      · exact .inl (.inr e12)
      · exact .inr (by simp [e8, e12])
  rcases hcase with hp | ⟨n8, n12, m8, m12⟩
  · obtain ⟨t1, HT1⟩ : ∃ t1, Hid (decide (1 ≤ wd ∧ wd ≤ 256) = t1) := ⟨_, rfl⟩
    obtain ⟨t2, HT2⟩ : ∃ t2, Hid (decide (1 ≤ ht ∧ ht ≤ 256) = t2) := ⟨_, rfl⟩
    obtain ⟨t4, HT4⟩ : ∃ t4, Hid (decide (0 ≤ rs ∧ rs ≤ 255) = t4) := ⟨_, rfl⟩
    have HP : Hid (t = (t1 && (t2 && (decide (wd * ht ≤ 16384) && t4)))) := by
      have e : (p == 8 || p == 12) = true := by rcases hp with rfl | rfl <;> rfl
      unfold Hid; rw [← unhide HT, headB, e, unhide HT1, unhide HT2, unhide HT4, Bool.true_and]
    clear HT
    cases t1
    · rcases hp with rfl | rfl
      all_goals
        go_enter Tryz.func83, Tryz.ntmps83
        go_wp2_with fail
        refine (inRange wd 1 256 _ HT1 _).mono ?_
        rintro e w1 ⟨rfl, rfl⟩
        go_wp2
        go_ret
        exact ⟨ret_bool (by rw [unhide HP]; rfl), grown_alloc (World.grownBy.refl _ _) _⟩
    · cases t2
      · rcases hp with rfl | rfl
        all_goals
          go_enter Tryz.func83, Tryz.ntmps83
          go_wp2_with fail
          refine (inRange wd 1 256 _ HT1 _).mono ?_
          rintro e w1 ⟨rfl, rfl⟩
          go_wp2_with fail
          refine (inRange ht 1 256 _ HT2 _).mono ?_
          rintro e w1 ⟨rfl, rfl⟩
          go_wp2
          go_ret
          exact ⟨ret_bool (by rw [unhide HP]; rfl), grown_alloc (World.grownBy.refl _ _) _⟩
      · have hb1 := of_decide_eq_true (unhide HT1)
        have hb2 := of_decide_eq_true (unhide HT2)
        have hm := mul_side hb1 hb2
        have hwr := i64_in (wd * ht) (by omega)
        clear hm hb1 hb2
        cases t3 : decide (wd * ht ≤ 16384)
        · rw [t3] at HP
          rcases hp with rfl | rfl
          all_goals
            go_enter Tryz.func83, Tryz.ntmps83
            go_wp2_with fail
            refine (inRange wd 1 256 _ HT1 _).mono ?_
            rintro e w1 ⟨rfl, rfl⟩
            go_wp2_with fail
            refine (inRange ht 1 256 _ HT2 _).mono ?_
            rintro e w1 ⟨rfl, rfl⟩
            go_wp2
            go_ret
            exact ⟨ret_bool (by rw [unhide HP]; rfl), grown_alloc (World.grownBy.refl _ _) _⟩
        · rw [t3] at HP
          rcases hp with rfl | rfl
          all_goals
            go_enter Tryz.func83, Tryz.ntmps83
            go_wp2_with fail
            refine (inRange wd 1 256 _ HT1 _).mono ?_
            rintro e w1 ⟨rfl, rfl⟩
            go_wp2_with fail
            refine (inRange ht 1 256 _ HT2 _).mono ?_
            rintro e w1 ⟨rfl, rfl⟩
            go_wp2_with fail
            refine (inRange rs 0 255 _ HT4 _).mono ?_
            rintro e w1 ⟨rfl, rfl⟩
            go_wp2
            go_ret
            exact ⟨ret_bool (by rw [unhide HP]; rfl), grown_alloc (World.grownBy.refl _ _) _⟩
  · have HP : Hid (t = false) := by unfold Hid; rw [← unhide HT, headB, m8, m12]; rfl
    clear HT m8 m12
    go_enter Tryz.func83, Tryz.ntmps83
    go_wp2
    go_ret
    exact ⟨ret_bool (by rw [unhide HP]), grown_alloc (World.grownBy.refl _ _) _⟩

set_option maxHeartbeats 800000 in
theorem compOk (c : Nat → Int) (t : Bool) (HT : Hid (compB c = t)) (w : World) :
    Calls Tryz.prog 106 #[.agg #[.int .i64 (c 0), .int .i64 (c 1), .int .i64 (c 2), .int .i64 (c 3)]] w fun e w' => e = .returned (.bool t) ∧ w.grownBy w' none := by
  obtain ⟨t1, HT1⟩ : ∃ t1, Hid (decide (0 ≤ c 0 ∧ c 0 ≤ 255) = t1) := ⟨_, rfl⟩
  obtain ⟨t2, HT2⟩ : ∃ t2, Hid (decide (1 ≤ c 1 ∧ c 1 ≤ 4) = t2) := ⟨_, rfl⟩
  obtain ⟨t3, HT3⟩ : ∃ t3, Hid (decide (1 ≤ c 2 ∧ c 2 ≤ 4) = t3) := ⟨_, rfl⟩
  obtain ⟨t4, HT4⟩ : ∃ t4, Hid (decide (0 ≤ c 3 ∧ c 3 ≤ 3) = t4) := ⟨_, rfl⟩
  have HP : Hid (t = (t1 && (t2 && (t3 && t4)))) := by unfold Hid; rw [← unhide HT, compB, unhide HT1, unhide HT2, unhide HT3, unhide HT4]
  clear HT
  generalize c 0 = c0 at *
  generalize c 1 = c1 at *
  generalize c 2 = c2 at *
  generalize c 3 = c3 at *
  cases t1
  · go_enter Tryz.func106, Tryz.ntmps106
    go_wp2_with fail
    refine (inRange c0 0 255 _ HT1 _).mono ?_
    rintro e w1 ⟨rfl, rfl⟩
    go_wp2
    go_ret
    exact ⟨ret_bool (by rw [unhide HP]; rfl), grown_alloc (World.grownBy.refl _ _) _⟩
  · cases t2
    · go_enter Tryz.func106, Tryz.ntmps106
      go_wp2_with fail
      refine (inRange c0 0 255 _ HT1 _).mono ?_
      rintro e w1 ⟨rfl, rfl⟩
      go_wp2_with fail
      refine (inRange c1 1 4 _ HT2 _).mono ?_
      rintro e w1 ⟨rfl, rfl⟩
      go_wp2
      go_ret
      exact ⟨ret_bool (by rw [unhide HP]; rfl), grown_alloc (World.grownBy.refl _ _) _⟩
    · cases t3
      · go_enter Tryz.func106, Tryz.ntmps106
        go_wp2_with fail
        refine (inRange c0 0 255 _ HT1 _).mono ?_
        rintro e w1 ⟨rfl, rfl⟩
        go_wp2_with fail
        refine (inRange c1 1 4 _ HT2 _).mono ?_
        rintro e w1 ⟨rfl, rfl⟩
        go_wp2_with fail
        refine (inRange c2 1 4 _ HT3 _).mono ?_
        rintro e w1 ⟨rfl, rfl⟩
        go_wp2
        go_ret
        exact ⟨ret_bool (by rw [unhide HP]; rfl), grown_alloc (World.grownBy.refl _ _) _⟩
      · go_enter Tryz.func106, Tryz.ntmps106
        go_wp2_with fail
        refine (inRange c0 0 255 _ HT1 _).mono ?_
        rintro e w1 ⟨rfl, rfl⟩
        go_wp2_with fail
        refine (inRange c1 1 4 _ HT2 _).mono ?_
        rintro e w1 ⟨rfl, rfl⟩
        go_wp2_with fail
        refine (inRange c2 1 4 _ HT3 _).mono ?_
        rintro e w1 ⟨rfl, rfl⟩
        go_wp2_with fail
        refine (inRange c3 0 3 _ HT4 _).mono ?_
        rintro e w1 ⟨rfl, rfl⟩
        go_wp2
        go_ret
        exact ⟨ret_bool (by rw [unhide HP]; rfl), grown_alloc (World.grownBy.refl _ _) _⟩

end Go.Proofs.YtjkokbijnaodnaaGreat

namespace Go.Proofs.YtjkokbijnaodnaaGreat
open Go.RowKit

/-- The cells of component i, where the frame lies. -/
theorem fx_cell {X : Array Value} {p wd ht rs n : Int} {C : Nat → Nat → Int} (hX : Fx X p wd ht rs n C) {w : World} {g : Nat} {t : TypeId} (hb : w.heap[g]? = some (.cells X t (0, 0))) (i j : Nat) (hi : i < 4) (hj : j < 4) :
    w.cell? ⟨g, 5 + i * 4 + j, none⟩ = some (.int .i64 (C i j)) := by rw [cell_of_row w g _ X t (0, 0) hb]; exact hX.comp i j hi hj

set_option maxHeartbeats 800000 in
theorem idAhead (X : Array Value) (p wd ht rs n : Int) (C : Nat → Nat → Int) (hX : Fx X p wd ht rs n C) (m : Nat) (hm : m < 4) (t : Bool) (HT : Hid (idIn C m m = t)) (w : World) :
    Calls Tryz.prog 107 #[.agg X, .int .i64 m] w fun e w' => e = .returned (.bool t) ∧ w.grownBy w' none := by
  have HX := hide hX
  have hs := hX.size
  have HB := hide (heap_alloc_new w (.cells X 83))
  have G0 : Hid (w.grownBy (w.alloc (.cells X 83)) none) := grown_alloc (World.grownBy.refl _ _) _
  have hgs : w.heap.size < (w.alloc (.cells X 83)).heap.size := by simp
  clear hX
  go_enter Tryz.func107, Tryz.ntmps107
  go_wp2
  generalize (w.alloc (.cells X 83)) = wx at *
  go_loopw [7] (fun i wr => ∃ k : Nat, k ≤ m ∧ i = .int .i64 k ∧ idIn C m k = false ∧ wx.grownBy wr none) (fun i _ => m - (intOf i).toNat)
  case atStart => exact ⟨0, Nat.zero_le _, rfl, rfl, World.grownBy.refl _ _⟩
  case round =>
    obtain ⟨k, hk, rfl, hid, hgk⟩ := hrel
    by_cases hlt : k < m
    · have hB := (hgk.block w.heap.size hgs (by simp)).trans (unhide HB)
      have hck := fx_cell (unhide HX) hB k 0 (by omega) (by omega)
      have hcm := fx_cell (unhide HX) hB m 0 (by omega) (by omega)
      rw [Nat.add_zero] at hck hcm
      have HST : Hid (idIn C m (k + 1) = (idIn C m k || (C k 0 == C m 0))) := rfl
      have HTR : Hid ((C k 0 == C m 0) = true → t = true) := fun h => by rw [← unhide HT]; exact idIn_true h m hlt
      have HID := hide hid
      clear hB hid
      generalize C k 0 = x at *
      generalize C m 0 = y at *
      cases hxy : (x == y) with
      | false =>
        have HXY := hide hxy
        go_wp2
        go_quiet (fail)
        go_wp2
        go_roundw
        case rel => exact ⟨k + 1, by omega, by go_num, by rw [unhide HST, unhide HID, unhide HXY]; rfl, grown_drewN hgk _⟩
        case measure => simp [intOf]; omega
      | true =>
        have HXY := hide hxy
        go_wp2
        go_quiet (fail)
        go_wp2
        go_ret
        exact ⟨ret_bool (by rw [unhide HTR (unhide HXY)]), grown_trans (unhide G0) (grown_drewN hgk _)⟩
    · have hkm : k = m := by omega
      subst hkm
      have HF : Hid (t = false) := by unfold Hid; rw [← unhide HT, hid]
      clear hid
      go_wp2
      go_ret
      exact ⟨ret_bool (by rw [unhide HF]), grown_trans (unhide G0) hgk⟩

set_option maxHeartbeats 1600000 in
theorem compsOk (X : Array Value) (p wd ht rs : Int) (n : Nat) (C : Nat → Nat → Int) (hX : Fx X p wd ht rs n C) (t : Bool) (HT : Hid (compsB n C = t)) (w : World) :
    Calls Tryz.prog 84 #[.agg X] w fun e w' => e = .returned (.bool t) ∧ w.grownBy w' none := by
  have HX := hide hX
  have hs := hX.size
  have h4 := hX.c4
  have h4' : X[4] = .int .i64 n := by rw [Array.getElem?_eq_getElem (by omega)] at h4; simpa using h4
  have HB := hide (heap_alloc_new w (.cells X 83))
  have G0 : Hid (w.grownBy (w.alloc (.cells X 83)) none) := grown_alloc (World.grownBy.refl _ _) _
  have hgs : w.heap.size < (w.alloc (.cells X 83)).heap.size := by simp
  clear hX
  by_cases hn : 1 ≤ (n : Int) ∧ (n : Int) ≤ 4
  · have HN : Hid (decide (1 ≤ (n : Int) ∧ (n : Int) ≤ 4) = true) := decide_eq_true hn
    have HR : Hid (t = (okTo C n && decide (sumHV C n ≤ 10))) := by unfold Hid; rw [← unhide HT, compsB, unhide HN, Bool.true_and]
    clear HT
    have hn4 : n ≤ 4 := by omega
    go_enter Tryz.func84, Tryz.ntmps84
    go_wp2_with fail
    refine (inRange n 1 4 _ HN _).mono ?_
    rintro e w1 ⟨rfl, rfl⟩
    go_wp2
    generalize (w.alloc (.cells X 83)) = wx at *
    go_loopw [3, 12] (fun b i wr => ∃ k : Nat, k ≤ n ∧ i = .int .i64 k ∧ b = .int .i64 (sumHV C k) ∧ okTo C k = true ∧ wx.grownBy wr none) (fun _ i _ => n - (intOf i).toNat)
    case atStart => exact ⟨0, Nat.zero_le _, rfl, rfl, rfl, World.grownBy.refl _ _⟩
    case round =>
      obtain ⟨k, hk, rfl, rfl, hok, hgk⟩ := hrel
      by_cases hlt : k < n
      · have hB := (hgk.block w.heap.size hgs (by simp)).trans (unhide HB)
        have h0 := fx_cell (unhide HX) hB k 0 (by omega) (by omega)
        have h1 := fx_cell (unhide HX) hB k 1 (by omega) (by omega)
        have h2 := fx_cell (unhide HX) hB k 2 (by omega) (by omega)
        have h3 := fx_cell (unhide HX) hB k 3 (by omega) (by omega)
        rw [Nat.add_zero] at h0
        have HBK := hide hB
        have HOK := hide hok
        have HSB := hide (sumHV_bounds k hok)
        have HS1 : Hid (okTo C (k + 1) = (okTo C k && (compB (C k) && !idIn C k k))) := rfl
        have HS2 : Hid (sumHV C (k + 1) = sumHV C k + C k 1 * C k 2) := rfl
        have STOP : Hid ((compB (C k) && !idIn C k k) = false → t = false) := fun h => by rw [unhide HR, okTo_false (k := k + 1) (by rw [unhide HS1, h, Bool.and_false]) n hlt]; rfl
        have hsz := hgk.size
        obtain ⟨t1, HT1⟩ : ∃ t1, Hid (compB (C k) = t1) := ⟨_, rfl⟩
        obtain ⟨t2, HT2⟩ : ∃ t2, Hid (idIn C k k = t2) := ⟨_, rfl⟩
        rw [unhide HT1, unhide HT2] at STOP HS1
        have HCK := hide (heap_alloc_new wr (.cells #[.int .i64 (C k 0), .int .i64 (C k 1), .int .i64 (C k 2), .int .i64 (C k 3)] 53))
        have GK : Hid (wr.grownBy (wr.alloc (.cells #[.int .i64 (C k 0), .int .i64 (C k 1), .int .i64 (C k 2), .int .i64 (C k 3)] 53)) none) := grown_alloc (World.grownBy.refl _ _) _
        have hgz : wr.heap.size < (wr.alloc (.cells #[.int .i64 (C k 0), .int .i64 (C k 1), .int .i64 (C k 2), .int .i64 (C k 3)] 53)).heap.size := by simp
        clear hB hok
        go_wp2_with fail
        refine (compOk (C k) t1 HT1 _).mono ?_
        generalize (wr.alloc (.cells #[.int .i64 (C k 0), .int .i64 (C k 1), .int .i64 (C k 2), .int .i64 (C k 3)] 53)) = wy at *
        rintro e w2 ⟨rfl, g2⟩
        have G2 := grown_trans hgk (grown_trans (unhide GK) g2)
        cases t1
        · go_wp2
          go_ret
          exact ⟨ret_bool (by rw [unhide STOP rfl]), grown_trans (unhide G0) G2⟩
        · have hB2 := (G2.block w.heap.size hgs (by simp)).trans (unhide HB)
          go_wp2_with (refine wpList_load_row rfl 83 _ rfl w.heap.size rfl X 83 hB2 _ Tryz.underlying83 rfl (by rw [hs]; kernel_rfl) ?_)
          refine (idAhead X p wd ht rs n C (unhide HX) k (by omega) t2 HT2 _).mono ?_
          rintro e w3 ⟨rfl, g3⟩
          have G3 := grown_trans G2 g3
          cases t2
          · have hbk := (grown_trans g2 g3).block wr.heap.size hgz (by simp)
            have hbk' := hbk.trans (unhide HCK)
            have c1 : w3.cell? ⟨wr.heap.size, 1, none⟩ = some (.int .i64 (C k 1)) := by rw [cell_of_row w3 _ 1 _ _ (0, 0) hbk']; rfl
            have c2 : w3.cell? ⟨wr.heap.size, 2, none⟩ = some (.int .i64 (C k 2)) := by rw [cell_of_row w3 _ 2 _ _ (0, 0) hbk']; rfl
            obtain ⟨_, hb1, hb2, _⟩ := compB_bounds (unhide HT1)
            have hmul := mul_small hb1 hb2
            have hsb := unhide HSB
            clear hbk hbk' hb1 hb2 hB2 h0 h1 h2 h3
            generalize C k 1 = x at *
            generalize C k 2 = y at *
            have hw1 := i64_in (x * y) (by omega)
            have hw2 := i64_in (sumHV C k + x * y) (by omega)
            generalize hxy : x * y = z at *
            have HXY := hide hxy
            clear hxy
            generalize sumHV C k = sm at *
            go_wp2
            go_roundw
            case rel => exact ⟨k + 1, by omega, by go_num, by rw [unhide HXY, IntWalk.wrap64_in z (by omega), IntWalk.wrap64_in (sm + z) (by omega), unhide HS2], by rw [unhide HS1, unhide HOK]; rfl, G3⟩
            case measure => simp [intOf]; omega
          · go_wp2
            go_ret
            exact ⟨ret_bool (by rw [unhide STOP rfl]), grown_trans (unhide G0) G3⟩
      · have hkn : k = n := by omega
        subst hkn
        have HF : Hid (t = decide (sumHV C k ≤ 10)) := by unfold Hid; rw [unhide HR, hok, Bool.true_and]
        have hsb := sumHV_bounds k hok
        clear hok
        go_wp2
        go_ret
        exact ⟨ret_bool (by rw [unhide HF]), grown_trans (unhide G0) hgk⟩
  · have HN : Hid (decide (1 ≤ (n : Int) ∧ (n : Int) ≤ 4) = false) := decide_eq_false hn
    have HF : Hid (t = false) := by unfold Hid; rw [← unhide HT, compsB, unhide HN, Bool.false_and]
    clear HT hn
    go_enter Tryz.func84, Tryz.ntmps84
    go_wp2_with fail
    refine (inRange n 1 4 _ HN _).mono ?_
    rintro e w1 ⟨rfl, rfl⟩
    go_wp2
    go_ret
    exact ⟨ret_bool (by rw [unhide HF]), unhide G0⟩

end Go.Proofs.YtjkokbijnaodnaaGreat

namespace Go.Proofs.YtjkokbijnaodnaaGreat
open Go.RowKit

/-- The cells of n structs of k cells each: cell j of struct i is f i j. -/
def rowsK (n k : Nat) (f : Nat → Nat → Value) : List Value := (List.range (n * k)).map (fun c => f (c / k) (c % k))
theorem rowsK_len (n k : Nat) (f : Nat → Nat → Value) : (rowsK n k f).length = n * k := by simp [rowsK]
theorem cell_place {k i j : Nat} (hj : j < k) : (i * k + j) / k = i ∧ (i * k + j) % k = j := by
  constructor
  · rw [Nat.mul_comm, Nat.mul_add_div (by omega), Nat.div_eq_of_lt hj, Nat.add_zero]
  · rw [Nat.mul_comm, Nat.mul_add_mod, Nat.mod_eq_of_lt hj]
theorem place_lt {n k i j : Nat} (hi : i < n) (hj : j < k) : i * k + j < n * k := by
  have h : (i + 1) * k ≤ n * k := Nat.mul_le_mul_right k hi
  rw [Nat.add_mul, Nat.one_mul] at h
  omega
theorem rowsK_get (n k : Nat) (f : Nat → Nat → Value) (i j : Nat) (hi : i < n) (hj : j < k) : (rowsK n k f)[i * k + j]? = some (f i j) := by
  unfold rowsK
  rw [List.getElem?_map, List.getElem?_range (place_lt hi hj), Option.map_some, (cell_place hj).1, (cell_place hj).2]
theorem rowsK_congr {n k : Nat} {f g : Nat → Nat → Value} (h : ∀ i j, i < n → j < k → f i j = g i j) : rowsK n k f = rowsK n k g := by
  unfold rowsK
  apply List.map_congr_left
  intro c hc
  have hc' := List.mem_range.1 hc
  have hk : 0 < k := by
    rcases Nat.eq_zero_or_pos k with e | e
    · subst e; simp at hc'
    · exact e
  exact h _ _ (Nat.div_lt_of_lt_mul (by rw [Nat.mul_comm]; exact hc')) (Nat.mod_lt _ hk)
/-- One cell changed. -/
theorem rowsK_set (n k : Nat) (f : Nat → Nat → Value) (i j : Nat) (u : Value) (hj : j < k) : (rowsK n k f).set (i * k + j) u = rowsK n k (fun a b => if a = i ∧ b = j then u else f a b) := by
  apply List.ext_getElem?
  intro c
  rw [List.getElem?_set]
  by_cases hc : c < n * k
  · have hk : 0 < k := by omega
    have hd : c = (c / k) * k + c % k := by have := Nat.div_add_mod c k; rw [Nat.mul_comm] at this; omega
    have hi' : c / k < n := Nat.div_lt_of_lt_mul (by rw [Nat.mul_comm]; exact hc)
    have hm : c % k < k := Nat.mod_lt _ hk
    have e1 : (rowsK n k f)[c]? = some (f (c / k) (c % k)) := by
      have := rowsK_get n k f (c / k) (c % k) hi' hm
      rwa [← hd] at this
    have e2 : (rowsK n k (fun a b => if a = i ∧ b = j then u else f a b))[c]? = some (if c / k = i ∧ c % k = j then u else f (c / k) (c % k)) := by
      have := rowsK_get n k (fun a b => if a = i ∧ b = j then u else f a b) (c / k) (c % k) hi' hm
      rwa [← hd] at this
    rw [e1, e2, rowsK_len]
    by_cases h : i * k + j = c
    · subst h
      rw [if_pos rfl, if_pos hc, if_pos (cell_place hj)]
    · rw [if_neg h, if_neg (fun e => h (by rw [← e.1, ← e.2]; exact hd.symm))]
  · rw [List.getElem?_eq_none (by rw [rowsK_len]; omega), List.getElem?_eq_none (by rw [rowsK_len]; omega), rowsK_len]
    split
    · rw [if_neg (by omega)]
    · rfl
/-- What is made anew. -/
theorem madeK (z : Array Value) (n : Nat) (hz : 0 < z.size) : (madeCells z (n * z.size)).toList = rowsK n z.size (fun _ b => z.getD b default) := by
  apply List.ext_getElem?
  intro c
  by_cases hc : c < n * z.size
  · have hm : c % z.size < z.size := Nat.mod_lt _ hz
    simp [madeCells, rowsK, hc, hm]
  · simp [madeCells, rowsK, hc]

theorem own_sameAt {w w' : World} {base : Nat} {e : TypeId} {size : Nat} {v : Value} {n : Nat} {xs : List Value} (h : w.ownsRow base e size v n xs) (hs : ∀ g, v.ownBlock = some g → w'.heap[g]? = w.heap[g]?) : w'.ownsRow base e size v n xs := by
  obtain ⟨h1, h2⟩ := h
  refine ⟨h1, ?_⟩
  rcases h2 with h2 | ⟨g, cap, cur, hv, hg, hh, r⟩
  · exact .inl h2
  · exact .inr ⟨g, cap, cur, hv, hg, by rw [hs g (by rw [hv]; rfl)]; exact hh, r⟩

/-- A world that is as it was outside of some rows, told by their numbers. -/
structure Kp (lo hi : Nat) (w w' : World) : Prop where
  os : w'.os = w.os
  tape : w'.tape = w.tape
  output : w'.output = w.output
  size : w.heap.size ≤ w'.heap.size
  block : ∀ k, k < w.heap.size → (k < lo ∨ hi ≤ k) → w'.heap[k]? = w.heap[k]?
theorem Kp.refl (lo hi : Nat) (w : World) : Kp lo hi w w := ⟨rfl, rfl, rfl, Nat.le_refl _, fun _ _ _ => rfl⟩
theorem Kp.trans {lo hi : Nat} {a b c : World} (h : Kp lo hi a b) (g : Kp lo hi b c) : Kp lo hi a c :=
  ⟨g.os.trans h.os, g.tape.trans h.tape, g.output.trans h.output, Nat.le_trans h.size g.size, fun k hk hr => (g.block k (Nat.lt_of_lt_of_le hk h.size) hr).trans (h.block k hk hr)⟩
theorem Kp.of {lo hi : Nat} {a b : World} {row : Option Nat} (h : a.grownBy b row) (hr : ∀ g, row = some g → lo ≤ g ∧ g < hi) : Kp lo hi a b :=
  ⟨h.os, h.tape, h.output, h.size, fun k hk hk' => h.block k hk (fun e => by have := hr k e.symm; omega)⟩
theorem Kp.new {lo hi : Nat} {a b c : World} (h : a.grownBy b none) (g : Kp lo hi b c) (hlo : a.heap.size ≤ lo) : a.grownBy c none :=
  ⟨g.os.trans h.os, g.tape.trans h.tape, g.output.trans h.output, Nat.le_trans h.size g.size, fun k hk _ => (g.block k (Nat.lt_of_lt_of_le hk h.size) (.inl (by omega))).trans (h.block k hk (by simp))⟩

end Go.Proofs.YtjkokbijnaodnaaGreat

namespace Go.Proofs.YtjkokbijnaodnaaGreat
open Go.RowKit

theorem grown_setRow (w : World) (g : Nat) (X : Array Value) : w.grownBy (w.setRow g X) (some g) :=
  ⟨rfl, rfl, rfl, by simp [World.setRow], fun k _ hk => setRow_other w g k X (fun e => hk (by simp [e]))⟩

theorem wpList_store_row {P : Program} {ops : Array Oper} {rest : List Oper} {op : Oper} {a : Act} {w : World} {Q : Exit → Act → World → Prop} (hw : Region.wanted op (yielded ops a.tmps) = true) (ty : TypeId) (x y : Operand) (ho : op.op = .store ty x y)
    (b : Nat) (hx : a.eval x = .pointer (some ⟨b, 0, none⟩)) (X : Array Value) (hy : a.eval y = .agg X) (Y : Array Value) (t : TypeId) (hb : w.heap[b]? = some (.cells Y t (0, 0))) (hYX : Y.size = X.size)
    (hi : (P.info? ty).map (·.size) = some X.size) (h1 : X.all (·.oneCell') = true)
    (h : ∀ w', w'.heap[b]? = some (.cells X t (0, 0)) → w.grownBy w' (some b) → wpList P ops Q rest (a.put op.dst undef) w') : wpList P ops Q (op :: rest) a w :=
  BigFrame.wpList_want hw fun K hK => by
    unfold Oper.wp execOp
    simp only [ho, hx, hy, Instr.storeAt, Instr.sureAddr, Sem.run_bind, Sem.run_pure, Result.andThen_ok, run_storeVar_row w b t ty Y X hb hi hYX h1]
    exact hK _ _ (h _ (setRow_heap w b Y X t _ hb) (grown_setRow w b X))

/-- Copying elements of so many cells each. -/
theorem run_copyK {P : Program} (w : World) (dT sT ty elem : TypeId) (sz : Nat) (g off dLen dCap : Nat) (sp : Option Addr) (sLen sCap : Nat) (cur : Array Value) (t : TypeId) (cs : List Value)
    (hu : P.underlying dT = some (.slice elem)) (hs : (P.info? elem).map (·.size) = some sz) (hg : w.heap[g]? = some (.cells cur t (0, 0))) (hn : cs.length = Nat.min sLen dLen * sz)
    (hpos : 0 < cs.length → ∃ ad, sp = some ad ∧ ∀ j v, cs[j]? = some v → w.cell? (ad.add j) = some v) (hfit : off + cs.length ≤ cur.size) (h1 : ∀ v ∈ cs, v.oneCell' = true) :
    (Builtin.copy_ #[dT, sT] ty #[.slice (some ⟨g, off, none⟩) dLen dCap, .slice sp sLen sCap]).run P w = .ok (goInt (Nat.min sLen dLen)) (w.setRow g (cur.toList.take off ++ cs ++ cur.toList.drop (off + cs.length)).toArray) := by
  have hst := run_storeCells_at P g off t cs 0 cur w hg (by simpa using hfit) h1
  cases hq : P.info? elem with
  | none => simp [hq] at hs
  | some i =>
    have hi : i.size = sz := by simpa [hq] using hs
    by_cases h0 : cs.length = 0
    · obtain rfl : cs = [] := List.eq_nil_of_length_eq_zero h0
      have hz : Nat.min sLen dLen * sz = 0 := by simpa using hn.symm
      have hl : ∀ (x : Addr), (loadCells x 0).run P w = .ok #[] w := fun x => by simpa using run_loadCells_list (P := P) w x [] (by simp)
      have hst' : (storeCells ⟨g, off, none⟩ [] 0).run P w = .ok () (w.setRow g cur) := by simpa using hst
      cases sp <;> simp [Builtin.copy_, run_underlying hu, Builtin.lenOf, Builtin.firstCells, sizeOf, typeInfo, hq, hi, hz, hl, hst']
    · obtain ⟨ad, rfl, hsrc⟩ := hpos (by omega)
      have hl := run_loadCells_list (P := P) w ad cs hsrc
      simp [Builtin.copy_, run_underlying hu, Builtin.lenOf, Builtin.firstCells, sizeOf, typeInfo, hq, hi, ← hn, hl, hst]

theorem step_copyK {P : Program} {ops : Array Oper} {o : Oper} {a : Act} {w : World} {K : Act → World → Prop} {Q : Exit → Act → World → Prop} {E : Prop} (hgd : o.guard = none) (d s : Operand) (dT sT : TypeId)
    (ho : o.op = .call { callee := .builtin .copy, args := #[d, s], argTypes := #[dT, sT] }) (elem : TypeId) (hu : P.underlying dT = some (.slice elem)) (sz : Nat) (hsz : (P.info? elem).map (·.size) = some sz)
    (g off dLen dCap : Nat) (sp : Option Addr) (sLen sCap : Nat) (hd : a.eval d = .slice (some ⟨g, off, none⟩) dLen dCap) (hs : a.eval s = .slice sp sLen sCap)
    (cur : Array Value) (t : TypeId) (hg : w.heap[g]? = some (.cells cur t (0, 0))) (cs : List Value) (hn : cs.length = Nat.min sLen dLen * sz)
    (hpos : 0 < cs.length → ∃ ad, sp = some ad ∧ ∀ j v, cs[j]? = some v → w.cell? (ad.add j) = some v) (hfit : off + cs.length ≤ cur.size) (h1 : ∀ v ∈ cs, v.oneCell' = true)
    (h : ∀ w', Hid (w'.heap[g]? = some (.cells (cur.toList.take off ++ cs ++ cur.toList.drop (off + cs.length)).toArray t (0, 0))) → w.grownBy w' (some g) → K (a.put o.dst (goInt (Nat.min sLen dLen))) w') :
    if Region.wanted o (yielded ops a.tmps) = true then Oper.wp P o a w K Q else E := by
  have hw : Region.wanted o (yielded ops a.tmps) = true := by simp [Region.wanted, hgd]
  rw [if_pos hw]
  have hrun := run_copyK (P := P) w dT sT o.type elem sz g off dLen dCap sp sLen sCap cur t cs hu hsz hg hn hpos hfit h1
  unfold Oper.wp
  simp only [execOp, ho, resolve, invoke, builtin, Sem.run_bind, Sem.run_pure, Result.andThen_ok, List.map_toArray, List.map_cons, List.map_nil, hd, hs, hrun]
  exact h _ (setRow_heap w g _ _ t _ hg) (grown_setRow w g _)

theorem Fx.one {X : Array Value} {p wd ht rs n : Int} {C : Nat → Nat → Int} (hX : Fx X p wd ht rs n C) : X.all (·.oneCell') = true := by
  rw [Array.all_eq_true]
  intro i hi
  have hs := hX.size
  have key : ∀ v, X[i]? = some v → v.oneCell' = true → (X[i]).oneCell' = true := by
    intro v hv h
    rw [Array.getElem?_eq_getElem hi] at hv
    simp at hv
    rw [hv]; exact h
  by_cases h5 : i < 5
  · have : i = 0 ∨ i = 1 ∨ i = 2 ∨ i = 3 ∨ i = 4 := by omega
    rcases this with rfl | rfl | rfl | rfl | rfl
    · exact key _ hX.c0 rfl
    · exact key _ hX.c1 rfl
    · exact key _ hX.c2 rfl
    · exact key _ hX.c3 rfl
    · exact key _ hX.c4 rfl
  · have e : i = 5 + (i - 5) / 4 * 4 + (i - 5) % 4 := by omega
    have hc := hX.comp ((i - 5) / 4) ((i - 5) % 4) (by omega) (by omega)
    rw [← e] at hc
    exact key _ hc rfl

theorem loadFx {w : World} {g : Nat} {X : Array Value} (hs : X.size = 21) (hb : w.heap[g]? = some (.cells X 83 (0, 0))) : (loadVar 83 ⟨g, 0, none⟩).run Tryz.prog w = .ok (.agg X) w :=
  run_loadVar_row w g 83 83 X (0, 0) _ hb Tryz.underlying83 rfl (by rw [hs]; kernel_rfl)

theorem results_cell1 {fn : Func} {p : Tmp} {ty : TypeId} (h : fn.results = #[.cell p ty]) (tmps : Array Value) (P : Program) (w : World) :
    (results fn tmps).run P w = ((asAddr (tmps.getD p undef)).run P w).andThen fun a w₁ => (loadVar ty a).run P w₁ := by
  simp only [results, h]
  simp [Sem.run_bind, Result.andThen]

set_option maxRecDepth 100000 in
set_option maxHeartbeats 1600000 in
theorem orNone (X : Array Value) (p wd ht rs : Int) (n : Nat) (C : Nat → Nat → Int) (hX : Fx X p wd ht rs n C) (R : Array Value) (HR : Hid ((if frameB p wd ht rs n C = true then X else #[.int .i64 0, .int .i64 0, .int .i64 0, .int .i64 0, .int .i64 0, .int .i64 0, .int .i64 0, .int .i64 0, .int .i64 0, .int .i64 0, .int .i64 0, .int .i64 0, .int .i64 0, .int .i64 0, .int .i64 0, .int .i64 0, .int .i64 0, .int .i64 0, .int .i64 0, .int .i64 0, .int .i64 0]) = R)) (w : World) :
    Calls Tryz.prog 72 #[.agg X] w fun e w' => e = .returned (.agg R) ∧ w.grownBy w' none := by
  have HX := hide hX
  have hs := hX.size
  obtain ⟨t1, HT1⟩ : ∃ t1, Hid (headB p wd ht rs = t1) := ⟨_, rfl⟩
  obtain ⟨t2, HT2⟩ : ∃ t2, Hid (compsB n C = t2) := ⟨_, rfl⟩
  have HH : Hid (frameB p wd ht rs n C = (t1 && t2)) := by unfold Hid; rw [frameB, unhide HT1, unhide HT2]
  obtain ⟨Z, hZ⟩ : ∃ Z, (#[.int .i64 0, .int .i64 0, .int .i64 0, .int .i64 0, .int .i64 0, .int .i64 0, .int .i64 0, .int .i64 0, .int .i64 0, .int .i64 0, .int .i64 0, .int .i64 0, .int .i64 0, .int .i64 0, .int .i64 0, .int .i64 0, .int .i64 0, .int .i64 0, .int .i64 0, .int .i64 0, .int .i64 0] : Array Value) = Z := ⟨_, rfl⟩
  have hsz : Z.size = 21 := by rw [← hZ]; rfl
  have HZ1 : Hid (Z.all (·.oneCell') = true) := by unfold Hid; rw [← hZ]; decide +kernel
  have HZ := hide hZ
  rw [hZ] at HR
  have hB0 : ((w.alloc (.cells X 83)).alloc (.cells #[.int .i64 0, .int .i64 0, .int .i64 0, .int .i64 0, .int .i64 0, .int .i64 0, .int .i64 0, .int .i64 0, .int .i64 0, .int .i64 0, .int .i64 0, .int .i64 0, .int .i64 0, .int .i64 0, .int .i64 0, .int .i64 0, .int .i64 0, .int .i64 0, .int .i64 0, .int .i64 0, .int .i64 0] 83)).heap[w.heap.size]? = some (.cells X 83 (0, 0)) := by rw [Below.heap_alloc _ _ _ (by simp)]; exact heap_alloc_new _ _
  have hB1 : ((w.alloc (.cells X 83)).alloc (.cells #[.int .i64 0, .int .i64 0, .int .i64 0, .int .i64 0, .int .i64 0, .int .i64 0, .int .i64 0, .int .i64 0, .int .i64 0, .int .i64 0, .int .i64 0, .int .i64 0, .int .i64 0, .int .i64 0, .int .i64 0, .int .i64 0, .int .i64 0, .int .i64 0, .int .i64 0, .int .i64 0, .int .i64 0] 83)).heap[w.heap.size + 1]? = some (.cells #[.int .i64 0, .int .i64 0, .int .i64 0, .int .i64 0, .int .i64 0, .int .i64 0, .int .i64 0, .int .i64 0, .int .i64 0, .int .i64 0, .int .i64 0, .int .i64 0, .int .i64 0, .int .i64 0, .int .i64 0, .int .i64 0, .int .i64 0, .int .i64 0, .int .i64 0, .int .i64 0, .int .i64 0] 83 (0, 0)) := by have := heap_alloc_new (w.alloc (.cells X 83)) (.cells #[.int .i64 0, .int .i64 0, .int .i64 0, .int .i64 0, .int .i64 0, .int .i64 0, .int .i64 0, .int .i64 0, .int .i64 0, .int .i64 0, .int .i64 0, .int .i64 0, .int .i64 0, .int .i64 0, .int .i64 0, .int .i64 0, .int .i64 0, .int .i64 0, .int .i64 0, .int .i64 0, .int .i64 0] 83); simpa using this
  have hgs : ((w.alloc (.cells X 83)).alloc (.cells #[.int .i64 0, .int .i64 0, .int .i64 0, .int .i64 0, .int .i64 0, .int .i64 0, .int .i64 0, .int .i64 0, .int .i64 0, .int .i64 0, .int .i64 0, .int .i64 0, .int .i64 0, .int .i64 0, .int .i64 0, .int .i64 0, .int .i64 0, .int .i64 0, .int .i64 0, .int .i64 0, .int .i64 0] 83)).heap.size = w.heap.size + 2 := by simp
  have G0 : w.grownBy ((w.alloc (.cells X 83)).alloc (.cells #[.int .i64 0, .int .i64 0, .int .i64 0, .int .i64 0, .int .i64 0, .int .i64 0, .int .i64 0, .int .i64 0, .int .i64 0, .int .i64 0, .int .i64 0, .int .i64 0, .int .i64 0, .int .i64 0, .int .i64 0, .int .i64 0, .int .i64 0, .int .i64 0, .int .i64 0, .int .i64 0, .int .i64 0] 83)) none := grown_alloc (grown_alloc (World.grownBy.refl _ _) _) _
  clear hX hZ
  have HB0 := hide hB0
  have HB1 := hide hB1
  have HGS := hide hgs
  clear hB0 hB1 hgs
  go_enter Tryz.func72, Tryz.ntmps72
  go_wp2_with (refine wpList_load_row rfl 83 _ rfl w.heap.size rfl X 83 (unhide HB0) _ Tryz.underlying83 rfl (by rw [hs]; kernel_rfl) ?_)
  generalize ((w.alloc (.cells X 83)).alloc (.cells #[.int .i64 0, .int .i64 0, .int .i64 0, .int .i64 0, .int .i64 0, .int .i64 0, .int .i64 0, .int .i64 0, .int .i64 0, .int .i64 0, .int .i64 0, .int .i64 0, .int .i64 0, .int .i64 0, .int .i64 0, .int .i64 0, .int .i64 0, .int .i64 0, .int .i64 0, .int .i64 0, .int .i64 0] 83)) = wx at *
  refine (headOk X p wd ht rs n C (unhide HX) t1 HT1 _).mono ?_
  rintro e w2 ⟨rfl, g2⟩
  have hB0 := (g2.block w.heap.size (by have := unhide HGS; omega) (by simp)).trans (unhide HB0)
  have hB1 := (g2.block (w.heap.size + 1) (by have := unhide HGS; omega) (by simp)).trans (unhide HB1)
  rw [unhide HZ] at hB1
  have G2 := grown_trans G0 g2
  cases t1
  · have HE : Hid (R = Z) := by unfold Hid; rw [← unhide HR, unhide HH]; rfl
    go_wp2_with (refine wpList_store_row rfl 83 _ _ rfl (w.heap.size + 1) rfl Z (congrArg _ (unhide HZ)) Z 83 hB1 rfl (by rw [hsz]; kernel_rfl) (unhide HZ1) ?_; intro w3 hB3 g3)
    refine bodyPost_ret (v := .agg Z) ?_ rfl ⟨by rw [unhide HE], ?_⟩
    · rw [results_cell1 rfl]
      exact loadFx hsz hB3
    · exact grown_new G2 g3 (fun g e => by simp at e; omega)
  · go_wp2_with (refine wpList_load_row rfl 83 _ rfl w.heap.size rfl X 83 hB0 _ Tryz.underlying83 rfl (by rw [hs]; kernel_rfl) ?_)
    refine (compsOk X p wd ht rs n C (unhide HX) t2 HT2 _).mono ?_
    rintro e w4 ⟨rfl, g4⟩
    have hB0' := (g4.block w.heap.size (by have := unhide HGS; have := g2.size; omega) (by simp)).trans hB0
    have hB1' := (g4.block (w.heap.size + 1) (by have := unhide HGS; have := g2.size; omega) (by simp)).trans hB1
    have G4 := grown_trans G2 g4
    clear hB0 hB1
    cases t2
    · have HE : Hid (R = Z) := by unfold Hid; rw [← unhide HR, unhide HH]; rfl
      go_wp2_with (refine wpList_store_row rfl 83 _ _ rfl (w.heap.size + 1) rfl Z (congrArg _ (unhide HZ)) Z 83 hB1' rfl (by rw [hsz]; kernel_rfl) (unhide HZ1) ?_; intro w3 hB3 g3)
      refine bodyPost_ret (v := .agg Z) ?_ rfl ⟨by rw [unhide HE], ?_⟩
      · rw [results_cell1 rfl]
        exact loadFx hsz hB3
      · exact grown_new G4 g3 (fun g e => by simp at e; omega)
    · have HE : Hid (R = X) := by unfold Hid; rw [← unhide HR, unhide HH]; rfl
      go_wp2_with (first | (refine wpList_load_row rfl 83 _ rfl w.heap.size rfl X 83 hB0' _ Tryz.underlying83 rfl (by rw [hs]; kernel_rfl) ?_) | (refine wpList_store_row rfl 83 _ _ rfl (w.heap.size + 1) rfl X rfl Z 83 hB1' (by rw [hs, hsz]) (by rw [hs]; kernel_rfl) (unhide HX).one ?_; intro w3 hB3 g3))
      refine bodyPost_ret (v := .agg X) ?_ rfl ⟨by rw [unhide HE], ?_⟩
      · rw [results_cell1 rfl]
        exact loadFx hs hB3
      · exact grown_new G4 g3 (fun g e => by simp at e; omega)

/-- What is read through a slice of components: four numbers each. -/
def RdC (w : World) (ao : Option Addr) (n : Nat) (C : Nat → Nat → Int) : Prop :=
  ∀ i, i < n → ∃ b off, ao = some ⟨b, off, none⟩ ∧ ∀ j, j < 4 → w.cell? ⟨b, off + i * 4 + j, none⟩ = some (.int .i64 (C i j))
theorem RdC.grown {w w' : World} {ao : Option Addr} {n : Nat} {C : Nat → Nat → Int} (h : RdC w ao n C) (hg : w.grownBy w' none) : RdC w' ao n C :=
  fun i hi => by obtain ⟨b, off, e, hc⟩ := h i hi; exact ⟨b, off, e, fun j hj => hg.cell (hc j hj) (by simp)⟩

def compCells (C : Nat → Nat → Int) : Nat → Nat → Value := fun i j => .int .i64 (C i j)

theorem rdC_src {w : World} {ao : Option Addr} {n m : Nat} {C : Nat → Nat → Int} (h : RdC w ao n C) (hm : m ≤ n) : 0 < (rowsK m 4 (compCells C)).length → ∃ ad, ao = some ad ∧ ∀ j v, (rowsK m 4 (compCells C))[j]? = some v → w.cell? (ad.add j) = some v := by
  intro hp
  rw [rowsK_len] at hp
  obtain ⟨b, off, rfl, _⟩ := h 0 (by omega)
  refine ⟨_, rfl, fun j v hv => ?_⟩
  have hj : j < m * 4 := by have := (List.getElem?_eq_some_iff.1 hv).1; rwa [rowsK_len] at this
  obtain ⟨b', off', e, hc⟩ := h (j / 4) (by omega)
  simp only [Option.some.injEq, Addr.mk.injEq] at e
  obtain ⟨rfl, rfl, _⟩ := e
  have hd : j = j / 4 * 4 + j % 4 := by omega
  have hg := rowsK_get m 4 (compCells C) (j / 4) (j % 4) (by omega) (by omega)
  rw [← hd] at hg
  rw [hg] at hv
  simp at hv
  subst hv
  rw [Addr.add_lit]
  have := hc (j % 4) (by omega)
  rw [Nat.add_assoc, ← hd] at this
  exact this

theorem rowsK_one {m k : Nat} {f : Nat → Nat → Value} (h : ∀ i j, (f i j).oneCell' = true) : ∀ v ∈ rowsK m k f, v.oneCell' = true := by
  intro v hv
  obtain ⟨c, _, rfl⟩ := List.mem_map.1 hv
  exact h _ _

/-- The frame's cells behind the copy. -/
theorem fx_copied {cur : Array Value} {p wd ht rs n : Int} {D : Nat → Nat → Int} (h : Fx cur p wd ht rs n D) (m : Nat) (C : Nat → Nat → Int) (hm : m ≤ 4) :
    Fx (cur.toList.take 5 ++ rowsK m 4 (compCells C) ++ cur.toList.drop (5 + (rowsK m 4 (compCells C)).length)).toArray p wd ht rs n (fun i j => if i < m then C i j else D i j) := by
  have hs := h.size
  have hl : (cur.toList.take 5).length = 5 := by simp; omega
  have low : ∀ k, k < 5 → (cur.toList.take 5 ++ rowsK m 4 (compCells C) ++ cur.toList.drop (5 + (rowsK m 4 (compCells C)).length)).toArray[k]? = cur[k]? := by
    intro k hk
    rw [List.getElem?_toArray, List.append_assoc, List.getElem?_append_left (by omega), List.getElem?_take, if_pos hk]
    simp
  refine ⟨by simp [rowsK_len]; omega, (low 0 (by omega)).trans h.c0, (low 1 (by omega)).trans h.c1, (low 2 (by omega)).trans h.c2, (low 3 (by omega)).trans h.c3, (low 4 (by omega)).trans h.c4, fun i j hi hj => ?_⟩
  rw [List.getElem?_toArray]
  by_cases him : i < m
  · rw [List.getElem?_append_left (by rw [List.length_append, hl, rowsK_len]; omega), List.getElem?_append_right (by omega), hl, show 5 + i * 4 + j - 5 = i * 4 + j by omega, rowsK_get m 4 _ i j him hj, if_pos him]
    rfl
  · rw [List.getElem?_append_right (by rw [List.length_append, hl, rowsK_len]; omega), List.length_append, hl, rowsK_len, List.getElem?_drop, if_neg him, show 5 + m * 4 + (5 + i * 4 + j - (5 + m * 4)) = 5 + i * 4 + j by omega]
    have := h.comp i j hi hj
    simpa using this

set_option maxRecDepth 100000 in
set_option maxHeartbeats 1600000 in
theorem fixFrame (p wd ht rs : Int) (ao : Option Addr) (n cap : Nat) (C : Nat → Nat → Int) (w : World) (hr : RdC w ao n C) (hn : n ≤ 4194304) (b : Bool) (HFB : Hid (frameB p wd ht rs n C = b)) :
    Calls Tryz.prog 50 #[.agg #[.int .i64 p, .int .i64 wd, .int .i64 ht, .int .i64 rs, .slice ao n cap]] w fun e w' => ∃ X, e = .returned (.agg X) ∧ (b = false → X = #[.int .i64 0, .int .i64 0, .int .i64 0, .int .i64 0, .int .i64 0, .int .i64 0, .int .i64 0, .int .i64 0, .int .i64 0, .int .i64 0, .int .i64 0, .int .i64 0, .int .i64 0, .int .i64 0, .int .i64 0, .int .i64 0, .int .i64 0, .int .i64 0, .int .i64 0, .int .i64 0, .int .i64 0]) ∧ (b = true → ∃ D, Fx X p wd ht rs n D ∧ ∀ i, i < n → D i = C i) ∧ w.grownBy w' none := by
  have HR := hide hr
  clear hr
  obtain ⟨X0, hX0⟩ : ∃ X0 : Array Value, #[.int .i64 p, .int .i64 wd, .int .i64 ht, .int .i64 rs, .int .i64 n, .int .i64 0, .int .i64 0, .int .i64 0, .int .i64 0, .int .i64 0, .int .i64 0, .int .i64 0, .int .i64 0, .int .i64 0, .int .i64 0, .int .i64 0, .int .i64 0, .int .i64 0, .int .i64 0, .int .i64 0, .int .i64 0] = X0 := ⟨_, rfl⟩
  have HF0 : Hid (Fx X0 p wd ht rs n (fun _ _ => 0)) := by
    rw [← hX0]
    refine ⟨rfl, rfl, rfl, rfl, rfl, rfl, fun i j hi hj => ?_⟩
    have h1 : i = 0 ∨ i = 1 ∨ i = 2 ∨ i = 3 := by omega
    have h2 : j = 0 ∨ j = 1 ∨ j = 2 ∨ j = 3 := by omega
    rcases h1 with rfl | rfl | rfl | rfl <;> rcases h2 with rfl | rfl | rfl | rfl <;> rfl
  have HX0 := hide hX0
  have HI0 : Hid ((Tryz.prog.info? 83).map (·.size) = some X0.size) := by unfold Hid; rw [(unhide HF0).size]; kernel_rfl
  have HB2 : Hid ((((w.alloc (.cells #[.int .i64 p, .int .i64 wd, .int .i64 ht, .int .i64 rs, .slice ao n cap] 37)).alloc (.cells #[.int .i64 0, .int .i64 0, .int .i64 0, .int .i64 0, .int .i64 0, .int .i64 0, .int .i64 0, .int .i64 0, .int .i64 0, .int .i64 0, .int .i64 0, .int .i64 0, .int .i64 0, .int .i64 0, .int .i64 0, .int .i64 0, .int .i64 0, .int .i64 0, .int .i64 0, .int .i64 0, .int .i64 0] 83)).alloc (.cells #[.int .i64 0, .int .i64 0, .int .i64 0, .int .i64 0, .int .i64 0, .int .i64 0, .int .i64 0, .int .i64 0, .int .i64 0, .int .i64 0, .int .i64 0, .int .i64 0, .int .i64 0, .int .i64 0, .int .i64 0, .int .i64 0, .int .i64 0, .int .i64 0, .int .i64 0, .int .i64 0, .int .i64 0] 83)).heap[w.heap.size + 1 + 1]? = some (.cells #[.int .i64 0, .int .i64 0, .int .i64 0, .int .i64 0, .int .i64 0, .int .i64 0, .int .i64 0, .int .i64 0, .int .i64 0, .int .i64 0, .int .i64 0, .int .i64 0, .int .i64 0, .int .i64 0, .int .i64 0, .int .i64 0, .int .i64 0, .int .i64 0, .int .i64 0, .int .i64 0, .int .i64 0] 83 (0, 0))) := by
    have := heap_alloc_new ((w.alloc (.cells #[.int .i64 p, .int .i64 wd, .int .i64 ht, .int .i64 rs, .slice ao n cap] 37)).alloc (.cells #[.int .i64 0, .int .i64 0, .int .i64 0, .int .i64 0, .int .i64 0, .int .i64 0, .int .i64 0, .int .i64 0, .int .i64 0, .int .i64 0, .int .i64 0, .int .i64 0, .int .i64 0, .int .i64 0, .int .i64 0, .int .i64 0, .int .i64 0, .int .i64 0, .int .i64 0, .int .i64 0, .int .i64 0] 83)) (.cells #[.int .i64 0, .int .i64 0, .int .i64 0, .int .i64 0, .int .i64 0, .int .i64 0, .int .i64 0, .int .i64 0, .int .i64 0, .int .i64 0, .int .i64 0, .int .i64 0, .int .i64 0, .int .i64 0, .int .i64 0, .int .i64 0, .int .i64 0, .int .i64 0, .int .i64 0, .int .i64 0, .int .i64 0] 83)
    unfold Hid
    simpa using this
  have HB1 : Hid ((((w.alloc (.cells #[.int .i64 p, .int .i64 wd, .int .i64 ht, .int .i64 rs, .slice ao n cap] 37)).alloc (.cells #[.int .i64 0, .int .i64 0, .int .i64 0, .int .i64 0, .int .i64 0, .int .i64 0, .int .i64 0, .int .i64 0, .int .i64 0, .int .i64 0, .int .i64 0, .int .i64 0, .int .i64 0, .int .i64 0, .int .i64 0, .int .i64 0, .int .i64 0, .int .i64 0, .int .i64 0, .int .i64 0, .int .i64 0] 83)).alloc (.cells #[.int .i64 0, .int .i64 0, .int .i64 0, .int .i64 0, .int .i64 0, .int .i64 0, .int .i64 0, .int .i64 0, .int .i64 0, .int .i64 0, .int .i64 0, .int .i64 0, .int .i64 0, .int .i64 0, .int .i64 0, .int .i64 0, .int .i64 0, .int .i64 0, .int .i64 0, .int .i64 0, .int .i64 0] 83)).heap[w.heap.size + 1]? = some (.cells #[.int .i64 0, .int .i64 0, .int .i64 0, .int .i64 0, .int .i64 0, .int .i64 0, .int .i64 0, .int .i64 0, .int .i64 0, .int .i64 0, .int .i64 0, .int .i64 0, .int .i64 0, .int .i64 0, .int .i64 0, .int .i64 0, .int .i64 0, .int .i64 0, .int .i64 0, .int .i64 0, .int .i64 0] 83 (0, 0))) := by
    have := heap_alloc_new (w.alloc (.cells #[.int .i64 p, .int .i64 wd, .int .i64 ht, .int .i64 rs, .slice ao n cap] 37)) (.cells #[.int .i64 0, .int .i64 0, .int .i64 0, .int .i64 0, .int .i64 0, .int .i64 0, .int .i64 0, .int .i64 0, .int .i64 0, .int .i64 0, .int .i64 0, .int .i64 0, .int .i64 0, .int .i64 0, .int .i64 0, .int .i64 0, .int .i64 0, .int .i64 0, .int .i64 0, .int .i64 0, .int .i64 0] 83)
    unfold Hid
    rw [Below.heap_alloc _ _ _ (by simp)]
    simpa using this
  have HB0 : Hid ((((w.alloc (.cells #[.int .i64 p, .int .i64 wd, .int .i64 ht, .int .i64 rs, .slice ao n cap] 37)).alloc (.cells #[.int .i64 0, .int .i64 0, .int .i64 0, .int .i64 0, .int .i64 0, .int .i64 0, .int .i64 0, .int .i64 0, .int .i64 0, .int .i64 0, .int .i64 0, .int .i64 0, .int .i64 0, .int .i64 0, .int .i64 0, .int .i64 0, .int .i64 0, .int .i64 0, .int .i64 0, .int .i64 0, .int .i64 0] 83)).alloc (.cells #[.int .i64 0, .int .i64 0, .int .i64 0, .int .i64 0, .int .i64 0, .int .i64 0, .int .i64 0, .int .i64 0, .int .i64 0, .int .i64 0, .int .i64 0, .int .i64 0, .int .i64 0, .int .i64 0, .int .i64 0, .int .i64 0, .int .i64 0, .int .i64 0, .int .i64 0, .int .i64 0, .int .i64 0] 83)).heap[w.heap.size]? = some (.cells #[.int .i64 p, .int .i64 wd, .int .i64 ht, .int .i64 rs, .slice ao n cap] 37 (0, 0))) := by
    have := heap_alloc_new w (.cells #[.int .i64 p, .int .i64 wd, .int .i64 ht, .int .i64 rs, .slice ao n cap] 37)
    unfold Hid
    rw [Below.heap_alloc _ _ _ (by simp; omega), Below.heap_alloc _ _ _ (by simp)]
    exact this
  have HGS : Hid ((((w.alloc (.cells #[.int .i64 p, .int .i64 wd, .int .i64 ht, .int .i64 rs, .slice ao n cap] 37)).alloc (.cells #[.int .i64 0, .int .i64 0, .int .i64 0, .int .i64 0, .int .i64 0, .int .i64 0, .int .i64 0, .int .i64 0, .int .i64 0, .int .i64 0, .int .i64 0, .int .i64 0, .int .i64 0, .int .i64 0, .int .i64 0, .int .i64 0, .int .i64 0, .int .i64 0, .int .i64 0, .int .i64 0, .int .i64 0] 83)).alloc (.cells #[.int .i64 0, .int .i64 0, .int .i64 0, .int .i64 0, .int .i64 0, .int .i64 0, .int .i64 0, .int .i64 0, .int .i64 0, .int .i64 0, .int .i64 0, .int .i64 0, .int .i64 0, .int .i64 0, .int .i64 0, .int .i64 0, .int .i64 0, .int .i64 0, .int .i64 0, .int .i64 0, .int .i64 0] 83)).heap.size = w.heap.size + 3) := by unfold Hid; simp
  have G0 : Hid (w.grownBy (((w.alloc (.cells #[.int .i64 p, .int .i64 wd, .int .i64 ht, .int .i64 rs, .slice ao n cap] 37)).alloc (.cells #[.int .i64 0, .int .i64 0, .int .i64 0, .int .i64 0, .int .i64 0, .int .i64 0, .int .i64 0, .int .i64 0, .int .i64 0, .int .i64 0, .int .i64 0, .int .i64 0, .int .i64 0, .int .i64 0, .int .i64 0, .int .i64 0, .int .i64 0, .int .i64 0, .int .i64 0, .int .i64 0, .int .i64 0] 83)).alloc (.cells #[.int .i64 0, .int .i64 0, .int .i64 0, .int .i64 0, .int .i64 0, .int .i64 0, .int .i64 0, .int .i64 0, .int .i64 0, .int .i64 0, .int .i64 0, .int .i64 0, .int .i64 0, .int .i64 0, .int .i64 0, .int .i64 0, .int .i64 0, .int .i64 0, .int .i64 0, .int .i64 0, .int .i64 0] 83)) none) := grown_alloc (grown_alloc (grown_alloc (World.grownBy.refl _ _) _) _) _
  clear hX0
  go_enter Tryz.func50, Tryz.ntmps50
  go_wp2_with (refine wpList_store_row rfl 83 _ _ rfl (w.heap.size + 1 + 1) rfl X0 (congrArg _ (unhide HX0)) #[.int .i64 0, .int .i64 0, .int .i64 0, .int .i64 0, .int .i64 0, .int .i64 0, .int .i64 0, .int .i64 0, .int .i64 0, .int .i64 0, .int .i64 0, .int .i64 0, .int .i64 0, .int .i64 0, .int .i64 0, .int .i64 0, .int .i64 0, .int .i64 0, .int .i64 0, .int .i64 0, .int .i64 0] 83 (unhide HB2) (unhide HF0).size.symm (unhide HI0) (unhide HF0).one ?_; intro w3 hB3 g3)
  have hGS := unhide HGS
  have hBf := (g3.block w.heap.size (by omega) (by simp; omega)).trans (unhide HB0)
  have hBr := (g3.block (w.heap.size + 1) (by omega) (by simp)).trans (unhide HB1)
  have G3 : w.grownBy w3 none := grown_new (unhide G0) g3 (fun g e => by simp at e; omega)
  have c4 : w3.cell? ⟨w.heap.size, 4, none⟩ = some (.slice ao n cap) := by rw [cell_of_row w3 _ 4 _ _ (0, 0) hBf]; rfl
  have HBR := hide hBr
  have HGR := hide G3
  have HB3 := hide hB3
  have hs3 : w.heap.size + 3 ≤ w3.heap.size := by have := g3.size; omega
  clear hBf hBr hB3 g3 G3 HB0 HB1 HB2 HGS G0 hGS
  have HRC := hide ((unhide HR).grown (unhide HGR))
  have hmin : Nat.min n 4 ≤ 4 := Nat.min_le_right _ _
  have hmin2 : Nat.min n 4 ≤ n := Nat.min_le_left _ _
  have HRL : Hid ((rowsK (Nat.min n 4) 4 (compCells C)).length = Nat.min n 4 * 4) := rowsK_len _ _ _
  have HFIT : Hid (5 + (rowsK (Nat.min n 4) 4 (compCells C)).length ≤ X0.size) := by unfold Hid; rw [unhide HRL, (unhide HF0).size]; omega
  have HONE : Hid (∀ v ∈ rowsK (Nat.min n 4) 4 (compCells C), v.oneCell' = true) := rowsK_one (fun _ _ => rfl)
  have HSRC := hide (rdC_src (unhide HRC) hmin2)
  go_region_law (refine step_copyK rfl (.tmp 17) (.tmp 19) 35 35 rfl 53 Tryz.underlying35 4 (by kernel_rfl) (w.heap.size + 1 + 1) 5 4 4 ao n cap rfl rfl X0 83 (unhide HB3) (rowsK (Nat.min n 4) 4 (compCells C)) (unhide HRL) (unhide HSRC) (unhide HFIT) (unhide HONE) ?_; intro w4 hB4 g4)
  have HF1 := hide (fx_copied (unhide HF0) (Nat.min n 4) C hmin)
  have hBr := (g4.block (w.heap.size + 1) (show w.heap.size + 1 < w3.heap.size by omega) (by simp)).trans (unhide HBR)
  have G4 : w.grownBy w4 none := grown_new (grown_drew (unhide HGR)) g4 (fun g e => by simp at e; omega)
  have hs4 : w.heap.size + 3 ≤ w4.heap.size := by have h : w3.heap.size ≤ w4.heap.size := g4.size; omega
  clear g4 HSRC HONE HFIT HRL c4 HB3 HBR HRC HGR
  obtain ⟨X1, hX1⟩ : ∃ X1 : Array Value, (X0.toList.take 5 ++ rowsK (Nat.min n 4) 4 (compCells C) ++ X0.toList.drop (5 + (rowsK (Nat.min n 4) 4 (compCells C)).length)).toArray = X1 := ⟨_, rfl⟩
  rw [hX1] at HF1 hB4
  clear hX1
  have hB4' := unhide hB4
  have hs1 := (unhide HF1).size
  have HCG : Hid (n ≤ 4 → ∀ i, i < n → (fun i j => if i < Nat.min n 4 then C i j else (fun _ _ => 0 : Nat → Nat → Int) i j) i = C i) := by
    intro h4 i hi
    have e : Nat.min n 4 = n := Nat.min_eq_left h4
    funext j
    rw [e]
    simp only [if_pos hi]
  have HFB1 : Hid (frameB p wd ht rs n (fun i j => if i < Nat.min n 4 then C i j else (fun _ _ => 0 : Nat → Nat → Int) i j) = b) := by
    unfold Hid
    rw [← unhide HFB, frameB, frameB, compsB_congr (unhide HCG)]
  have HN4 : Hid (b = true → n ≤ 4) := by
    intro hb
    rw [← unhide HFB, frameB, Bool.and_eq_true, compsB, Bool.and_eq_true] at hb
    have := of_decide_eq_true hb.2.1
    omega
  generalize (fun i j => if i < Nat.min n 4 then C i j else (fun _ _ => 0 : Nat → Nat → Int) i j) = D at *
  clear hB4
  obtain ⟨R, HRR⟩ : ∃ R : Array Value, Hid ((if frameB p wd ht rs n D = true then X1 else #[.int .i64 0, .int .i64 0, .int .i64 0, .int .i64 0, .int .i64 0, .int .i64 0, .int .i64 0, .int .i64 0, .int .i64 0, .int .i64 0, .int .i64 0, .int .i64 0, .int .i64 0, .int .i64 0, .int .i64 0, .int .i64 0, .int .i64 0, .int .i64 0, .int .i64 0, .int .i64 0, .int .i64 0]) = R) := ⟨_, rfl⟩
  have HRS : Hid (R.size = 21) := by unfold Hid; rw [← unhide HRR]; split; exact hs1; rfl
  have HRO : Hid (R.all (·.oneCell') = true) := by unfold Hid; rw [← unhide HRR]; split; exact (unhide HF1).one; decide +kernel
  go_wp2_with (refine wpList_load_row rfl 83 _ rfl (w.heap.size + 1 + 1) rfl X1 83 hB4' _ Tryz.underlying83 rfl (by rw [hs1]; kernel_rfl) ?_)
  refine (orNone X1 p wd ht rs n D (unhide HF1) R HRR _).mono ?_
  rintro e w5 ⟨rfl, g5⟩
  have hBr5 := (g5.block (w.heap.size + 1) (by omega) (by simp)).trans hBr
  have G5 := grown_trans G4 g5
  clear hBr hB4'
  go_wp2_with (refine wpList_store_row rfl 83 _ _ rfl (w.heap.size + 1) rfl R rfl #[.int .i64 0, .int .i64 0, .int .i64 0, .int .i64 0, .int .i64 0, .int .i64 0, .int .i64 0, .int .i64 0, .int .i64 0, .int .i64 0, .int .i64 0, .int .i64 0, .int .i64 0, .int .i64 0, .int .i64 0, .int .i64 0, .int .i64 0, .int .i64 0, .int .i64 0, .int .i64 0, .int .i64 0] 83 hBr5 (unhide HRS).symm (by rw [unhide HRS]; kernel_rfl) (unhide HRO) ?_; intro w6 hB6 g6)
  refine bodyPost_ret (v := .agg R) ?_ rfl ⟨R, rfl, fun hb => ?_, fun hb => ?_, ?_⟩
  · rw [results_cell1 rfl]
    exact loadFx (unhide HRS) hB6
  · rw [← unhide HRR, unhide HFB1, hb]; rfl
  · refine ⟨D, ?_, unhide HCG (unhide HN4 hb)⟩
    have e : R = X1 := by rw [← unhide HRR, unhide HFB1, hb]; rfl
    rw [e]; exact unhide HF1
  · exact grown_new G5 g6 (fun g e => by simp at e; omega)

set_option maxRecDepth 100000 in
set_option maxHeartbeats 1600000 in
theorem implFrameOk (p wd ht rs : Int) (ao : Option Addr) (n cap : Nat) (C : Nat → Nat → Int) (w : World) (hr : RdC w ao n C) (hn : n ≤ 4194304) (b : Bool) (HFB : Hid (frameB p wd ht rs n C = b)) :
    Calls Tryz.prog 45 #[.agg #[.int .i64 p, .int .i64 wd, .int .i64 ht, .int .i64 rs, .slice ao n cap]] w fun e w' => e = .returned (.bool b) ∧ w.grownBy w' none := by
  have HR := hide hr
  clear hr
  go_enter Tryz.func45, Tryz.ntmps45
  go_wp2_with fail
  refine (fixFrame p wd ht rs ao n cap C _ ((unhide HR).grown (grown_alloc (World.grownBy.refl _ _) _)) hn b HFB).mono ?_
  rintro e w1 ⟨X, rfl, h1, h2, g1⟩
  have G1 := grown_trans (grown_alloc (World.grownBy.refl w none) _) g1
  have H1 := hide h1
  have H2 := hide h2
  clear h1 h2 g1
  cases b
  · rw [unhide H1 rfl]
    go_wp2_with fail
    refine (isNone_yes _).mono ?_
    rintro e w2 ⟨rfl, g2⟩
    go_wp2
    go_ret
    exact ⟨rfl, grown_trans G1 g2⟩
  · obtain ⟨D, hF, _⟩ := unhide H2 rfl
    have hp : (p == 0) = false := by
      have h := unhide HFB
      rw [frameB, Bool.and_eq_true] at h
      rcases (headB_facts h.1).1 with rfl | rfl <;> rfl
    go_wp2_with fail
    refine (isNone_no X p wd ht rs n D hF hp _).mono ?_
    rintro e w2 ⟨rfl, g2⟩
    go_wp2
    go_ret
    exact ⟨rfl, grown_trans G1 g2⟩

end Go.Proofs.YtjkokbijnaodnaaGreat

namespace Go.Proofs.YtjkokbijnaodnaaGreat
open Go.RowKit Go.ChangeShapes Go.WideShapes Go.Deep

set_option maxRecDepth 100000 in
theorem frame_cells {H : Type} {enc : TypeId × Value → H} {W : World} {base : Nat} {spare : Nat → Bool} {held : Bool} {fuel : Nat} {a0 a1 a2 a3 a4 : Value} {x : DataW H × List MemPlace}
    (h : DataW.trod enc Tryz.prog W base spare held fuel 24 [a0, a1, a2, a3, a4] = some x) :
    ∃ (p wd ht rs : Int) (ao : Option Addr) (n cap : Nat) (C : Nat → Nat → Int), a0 = .int .i64 p ∧ a1 = .int .i64 wd ∧ a2 = .int .i64 ht ∧ a3 = .int .i64 rs ∧ a4 = .slice ao n cap ∧ RdC W ao n C ∧ n ≤ maxLen := by
  have ci : Tryz.prog.cellsOf 3 = 1 := by kernel_rfl
  have cl : Tryz.prog.cellsOf 22 = 1 := by kernel_rfl
  have ce : Tryz.prog.cellsOf 101 = 4 := by kernel_rfl
  obtain ⟨xs, n, _, _, hl, hlen, hfld⟩ := DataW.trod_struct Tryz.underlying24 h
  obtain ⟨y0, y1, y2, y3, y4, rfl⟩ : ∃ y0 y1 y2 y3 y4, xs = [y0, y1, y2, y3, y4] := by
    match xs, hlen with
    | [y0, y1, y2, y3, y4], _ => exact ⟨y0, y1, y2, y3, y4, rfl⟩
  have g0 := hfld 0 _ rfl
  have g1 := hfld 1 _ rfl
  have g2 := hfld 2 _ rfl
  have g3 := hfld 3 _ rfl
  have g4 := hfld 4 _ rfl
  simp [ci, cl] at g0 g1 g2 g3 g4
  obtain ⟨p, e0, _, _⟩ := DataW.trod_int Tryz.underlying3 g0
  obtain ⟨wd, e1, _, _⟩ := DataW.trod_int Tryz.underlying3 g1
  obtain ⟨ht, e2, _, _⟩ := DataW.trod_int Tryz.underlying3 g2
  obtain ⟨rs, e3, _, _⟩ := DataW.trod_int Tryz.underlying3 g3
  simp at e0 e1 e2 e3
  subst e0 e1 e2 e3
  rcases open_slice Tryz.underlying22 g4 with ⟨hcs, _⟩ | ⟨a, len, cap, m, k, D, Pl, hcs, _, hle, hmx, hmm, _, hall⟩
  · simp at hcs
    subst hcs
    exact ⟨p, wd, ht, rs, none, 0, 0, fun _ _ => 0, rfl, rfl, rfl, rfl, rfl, fun i hi => absurd hi (by omega), by unfold maxLen; omega⟩
  · simp at hcs
    subst hcs
    have hlm : len ≤ m := by rw [hmm]; split <;> omega
    have hch : ∀ i, ∃ q : Nat → Int, i < len → ∀ j, j < 4 → W.cell? (a.add (i * 4 + j)) = some (.int .i64 (q j)) := by
      intro i
      by_cases hi : i < len
      · obtain ⟨cs', h1, h2⟩ := hall i (by omega)
        rw [ce] at h1
        obtain ⟨_, hlen', hcell⟩ := World.cells?_some h1
        obtain ⟨ys, k', _, _, _, hyl, hfe⟩ := DataW.trod_struct Tryz.underlying101 h2
        obtain ⟨y0, y1, y2, y3, rfl⟩ : ∃ y0 y1 y2 y3, ys = [y0, y1, y2, y3] := by
          match ys, hyl with
          | [y0, y1, y2, y3], _ => exact ⟨y0, y1, y2, y3, rfl⟩
        match cs', hlen' with
        | [v0, v1, v2, v3], _ =>
          have f0 := hfe 0 _ rfl
          have f1 := hfe 1 _ rfl
          have f2 := hfe 2 _ rfl
          have f3 := hfe 3 _ rfl
          simp [ci] at f0 f1 f2 f3
          obtain ⟨q0, e0, _, _⟩ := DataW.trod_int Tryz.underlying3 f0
          obtain ⟨q1, e1, _, _⟩ := DataW.trod_int Tryz.underlying3 f1
          obtain ⟨q2, e2, _, _⟩ := DataW.trod_int Tryz.underlying3 f2
          obtain ⟨q3, e3, _, _⟩ := DataW.trod_int Tryz.underlying3 f3
          simp at e0 e1 e2 e3
          subst e0 e1 e2 e3
          refine ⟨fun j => if j = 0 then q0 else if j = 1 then q1 else if j = 2 then q2 else q3, fun _ j hj => ?_⟩
          have hcj := hcell j (by simpa using hj)
          rw [add_add] at hcj
          have : j = 0 ∨ j = 1 ∨ j = 2 ∨ j = 3 := by omega
          rcases this with rfl | rfl | rfl | rfl <;> simpa using hcj
      · exact ⟨fun _ => 0, fun h => absurd h hi⟩
    obtain ⟨C, hC⟩ := Classical.axiomOfChoice hch
    refine ⟨p, wd, ht, rs, some a, len, cap, C, rfl, rfl, rfl, rfl, rfl, fun i hi => ?_, by omega⟩
    obtain ⟨b, off, spot⟩ := a
    have hspot : spot = none := by
      have := hC 0 (by omega) 0 (by omega)
      simpa [Addr.add] using World.cell?_spot this
    subst hspot
    refine ⟨b, off, rfl, fun j hj => ?_⟩
    have := hC i hi j hj
    rw [Addr.add_lit] at this
    rw [Nat.add_assoc]
    exact this

set_option maxRecDepth 100000 in
theorem frame_open {H : Type} {enc : TypeId × Value → H} {W : World} {base b0 : Nat} {spare : Nat → Bool} {held : Bool} {r : Reach} {v : Value} {d : DataW H} {ps : List MemPlace}
    (hv : Value.okWide Tryz.prog W r b0 24 v) (h : DataW.Trod enc Tryz.prog W base spare held 24 v d ps) :
    ∃ (p wd ht rs : Int) (ao : Option Addr) (n cap : Nat) (C : Nat → Nat → Int), v = .agg #[.int .i64 p, .int .i64 wd, .int .i64 ht, .int .i64 rs, .slice ao n cap] ∧ RdC W ao n C ∧ n ≤ maxLen := by
  obtain ⟨cs, rfl, hsz⟩ := okWide_struct Tryz.underlying24 hv
  have hc5 : cs.size = 5 := by rw [hsz]; kernel_rfl
  obtain ⟨l⟩ := cs
  match l, hc5 with
  | [a0, a1, a2, a3, a4], _ =>
    obtain ⟨fuel, hf⟩ := h
    obtain ⟨p, wd, ht, rs, ao, n, cap, C, rfl, rfl, rfl, rfl, rfl, h1, h2⟩ := frame_cells (a0 := a0) hf
    exact ⟨p, wd, ht, rs, ao, n, cap, C, rfl, h1, h2⟩

end Go.Proofs.YtjkokbijnaodnaaGreat

namespace Go.Proofs.YtjkokbijnaodnaaGreat
open Go.RowKit

theorem grown_atT {a b : World} {g : Nat} {o : Obj} {row : Option Nat} (h : a.grownBy b row) (hg : a.heap[g]? = some o) (hne : row ≠ some g) : b.heap[g]? = some o :=
  (h.block g (Array.getElem?_eq_some_iff.1 hg).1 (fun e => hne e.symm)).trans hg

/-- What may be another one: the blocks of a list, and new ones. -/
structure Wr (F : List Nat) (w w' : World) : Prop where
  os : w'.os = w.os
  tape : w'.tape = w.tape
  output : w'.output = w.output
  size : w.heap.size ≤ w'.heap.size
  block : ∀ k, k < w.heap.size → k ∉ F → w'.heap[k]? = w.heap[k]?
theorem Wr.refl (F : List Nat) (w : World) : Wr F w w := ⟨rfl, rfl, rfl, Nat.le_refl _, fun _ _ _ => rfl⟩
theorem Wr.trans {F : List Nat} {a b c : World} (h : Wr F a b) (g : Wr F b c) : Wr F a c :=
  ⟨g.os.trans h.os, g.tape.trans h.tape, g.output.trans h.output, Nat.le_trans h.size g.size, fun k hk hn => (g.block k (Nat.lt_of_lt_of_le hk h.size) hn).trans (h.block k hk hn)⟩
theorem Wr.mono {F G : List Nat} {a b : World} (h : Wr F a b) (hs : ∀ x ∈ F, x ∈ G) : Wr G a b := ⟨h.os, h.tape, h.output, h.size, fun k hk hn => h.block k hk (fun e => hn (hs k e))⟩
theorem Wr.ofNone {F : List Nat} {a b : World} (h : a.grownBy b none) : Wr F a b := ⟨h.os, h.tape, h.output, h.size, fun k hk _ => h.block k hk (by simp)⟩
theorem Wr.ofRow {F : List Nat} {a b : World} {row : Option Nat} (h : a.grownBy b row) (hr : ∀ g, row = some g → g ∈ F) : Wr F a b :=
  ⟨h.os, h.tape, h.output, h.size, fun k hk hn => h.block k hk (fun e => hn (hr k e.symm))⟩
theorem Wr.toNone {a b : World} (h : Wr [] a b) : a.grownBy b none := ⟨h.os, h.tape, h.output, h.size, fun k hk _ => h.block k hk (by simp)⟩
/-- Seen from a world in which the blocks were not yet. -/
theorem Wr.new {F : List Nat} {B a b : World} (hB : B.grownBy a none) (h : Wr F a b) (hF : ∀ g ∈ F, B.heap.size ≤ g) : B.grownBy b none :=
  ⟨h.os.trans hB.os, h.tape.trans hB.tape, h.output.trans hB.output, Nat.le_trans hB.size h.size, fun k hk _ => (h.block k (Nat.lt_of_lt_of_le hk hB.size) (fun e => by have := hF k e; omega)).trans (hB.block k hk (by simp))⟩

/-- What is read of a row of numbers, and of a row of rows. -/
def RdI (k : IntKind) (w : World) (u : Value) (xs : List Int) : Prop := ∃ ao cap, u = .slice ao xs.length cap ∧ Rd k w ao xs.length xs
def RdR {α : Type} (P : World → Value → α → Prop) (w : World) (v : Value) (L : List α) : Prop :=
  ∃ ao cap, v = .slice ao L.length cap ∧ ∀ i (h : i < L.length), ∃ b off u, ao = some ⟨b, off, none⟩ ∧ w.cell? ⟨b, off + i, none⟩ = some u ∧ P w u L[i]
def StR {α : Type} (P : World → Value → α → Prop) : Prop := ∀ w w' u a, P w u a → w.grownBy w' none → P w' u a
theorem RdI.st (k : IntKind) : StR (RdI k) := fun _ _ _ _ ⟨ao, cap, e, h⟩ g => ⟨ao, cap, e, h.grown g⟩
theorem RdR.st {α : Type} {P : World → Value → α → Prop} (hP : StR P) : StR (RdR P) := fun _ _ _ _ ⟨ao, cap, e, h⟩ g =>
  ⟨ao, cap, e, fun i hi => by obtain ⟨b, off, u, e1, h1, h2⟩ := h i hi; exact ⟨b, off, u, e1, g.cell h1 (by simp), hP _ _ _ _ h2 g⟩⟩

/-- Who owns a row of numbers, and a row of rows: the blocks that they lie in. -/
def blk (v : Value) : List Nat := v.ownBlock.toList
theorem mem_blk {v : Value} {g : Nat} : g ∈ blk v ↔ v.ownBlock = some g := by unfold blk; simp
def OwI (k : IntKind) (e : TypeId) (w : World) (u : Value) (xs : List Int) (F : List Nat) : Prop := w.ownsRow 0 e 1 u xs.length (xs.map (Value.int k)) ∧ F = blk u
def OwR {α : Type} (e : TypeId) (P : World → Value → α → List Nat → Prop) (w : World) (v : Value) (L : List α) (F : List Nat) : Prop :=
  ∃ (us : List Value) (Fs : List (List Nat)), us.length = L.length ∧ Fs.length = L.length ∧ w.ownsRow 0 e 1 v L.length us ∧ (∀ i (h : i < L.length), P w (us.getD i (.slice none 0 0)) L[i] (Fs.getD i [])) ∧ F = blk v ++ Fs.flatten
structure OwOk {α : Type} (P : World → Value → α → List Nat → Prop) : Prop where
  same : ∀ w w' u a F, P w u a F → (∀ g ∈ F, w'.heap[g]? = w.heap[g]?) → P w' u a F
  lt : ∀ w u a F, P w u a F → ∀ g ∈ F, g < w.heap.size
  form : ∀ w u a F, P w u a F → ∃ ao n cap, u = .slice ao n cap
theorem OwOk.wr {α : Type} {P : World → Value → α → List Nat → Prop} (hP : OwOk P) {w w' : World} {u : Value} {a : α} {F G : List Nat} (h : P w u a F) (g : Wr G w w') (hd : ∀ x ∈ F, x ∉ G) : P w' u a F :=
  hP.same w w' u a F h (fun x hx => g.block x (hP.lt w u a F h x hx) (hd x hx))
theorem OwOk.keep {α : Type} {P : World → Value → α → List Nat → Prop} (hP : OwOk P) {w w' : World} {u : Value} {a : α} {F : List Nat} (h : P w u a F) (g : w.grownBy w' none) : P w' u a F :=
  hP.wr h (Wr.ofNone (F := []) g) (fun x _ => by simp)

theorem OwI.ok (k : IntKind) (e : TypeId) : OwOk (OwI k e) :=
  ⟨fun w w' u a F h hs => ⟨own_sameAt h.1 (fun g hg => hs g (by rw [h.2]; exact mem_blk.2 hg)), h.2⟩,
   fun w u a F h g hg => (h.1.lt g (mem_blk.1 (by rw [← h.2]; exact hg))).2,
   fun w u a F h => by obtain ⟨ao, cap, rfl⟩ := own_form h.1; exact ⟨_, _, _, rfl⟩⟩
theorem OwI.rd {k : IntKind} {e : TypeId} {w : World} {u : Value} {xs : List Int} {F : List Nat} (h : OwI k e w u xs F) : RdI k w u xs := by
  obtain ⟨ao, cap, rfl⟩ := own_form h.1
  exact ⟨ao, cap, rfl, own_rd h.1⟩
theorem OwI.nodup {k : IntKind} {e : TypeId} {w : World} {u : Value} {xs : List Int} {F : List Nat} (h : OwI k e w u xs F) : F.Nodup := by
  rw [h.2]; unfold blk; cases u.ownBlock <;> simp
theorem OwI.of {k : IntKind} {e : TypeId} {w : World} {u : Value} {xs : List Int} {base : Nat} (h : w.ownsRow base e 1 u xs.length (xs.map (Value.int k))) : OwI k e w u xs (blk u) := ⟨own_base h (Nat.zero_le _), rfl⟩
theorem OwI.nil (k : IntKind) (e : TypeId) (w : World) : OwI k e w (.slice none 0 0) [] [] := ⟨⟨rfl, .inl ⟨rfl, rfl⟩⟩, rfl⟩

section
variable {α : Type} {e : TypeId} {P : World → Value → α → List Nat → Prop} {w : World} {v : Value} {L : List α} {F : List Nat}
theorem flat_in {Fs : List (List Nat)} {i : Nat} (h : i < Fs.length) : ∀ x ∈ Fs.getD i [], x ∈ Fs.flatten := fun x hx =>
  List.mem_flatten.2 ⟨Fs[i], List.getElem_mem h, by simpa [h] using hx⟩
theorem flat_apart {Fs : List (List Nat)} (h : Fs.flatten.Nodup) {i j : Nat} (hi : i < Fs.length) (hj : j < Fs.length) (hne : i ≠ j) : ∀ x ∈ Fs.getD i [], x ∉ Fs.getD j [] := by
  intro x hx hy
  have hp := (List.pairwise_flatten.1 h).2
  rw [List.pairwise_iff_getElem] at hp
  have hx' : x ∈ Fs[i] := by simpa [hi] using hx
  have hy' : x ∈ Fs[j] := by simpa [hj] using hy
  rcases Nat.lt_or_gt_of_ne hne with hlt | hlt
  · exact hp i j hi hj hlt x hx' x hy' rfl
  · exact hp j i hj hi hlt x hy' x hx' rfl
theorem OwR.ok (hP : OwOk P) : OwOk (OwR e P) := by
  refine ⟨?_, ?_, ?_⟩
  · rintro w w' u a F ⟨us, Fs, h1, h2, h3, h4, rfl⟩ hs
    refine ⟨us, Fs, h1, h2, own_sameAt h3 (fun g hg => hs g (by simp [mem_blk.2 hg])), fun i hi => ?_, rfl⟩
    exact hP.same w w' _ _ _ (h4 i hi) (fun g hg => hs g (by have := flat_in (by omega) g hg; simp [this]))
  · rintro w u a F ⟨us, Fs, h1, h2, h3, h4, rfl⟩ g hg
    rcases List.mem_append.1 hg with hg | hg
    · exact (h3.lt g (mem_blk.1 hg)).2
    · obtain ⟨l, hl, hgl⟩ := List.mem_flatten.1 hg
      obtain ⟨i, hi, rfl⟩ := List.mem_iff_getElem.1 hl
      exact hP.lt w _ _ _ (h4 i (by omega)) g (by simpa [hi] using hgl)
  · rintro w u a F ⟨us, Fs, h1, h2, h3, h4, rfl⟩
    obtain ⟨ao, cap, rfl⟩ := own_form h3
    exact ⟨_, _, _, rfl⟩
theorem OwR.form (h : OwR e P w v L F) : ∃ ao cap, v = .slice ao L.length cap := by
  obtain ⟨us, Fs, _, _, h3, _⟩ := h
  exact own_form h3
theorem OwR.rd {Q : World → Value → α → Prop} (hPQ : ∀ w u a F, P w u a F → Q w u a) (h : OwR e P w v L F) : RdR Q w v L := by
  obtain ⟨us, Fs, h1, h2, h3, h4, rfl⟩ := h
  obtain ⟨ao, cap, rfl⟩ := own_form h3
  refine ⟨ao, cap, rfl, fun i hi => ?_⟩
  obtain ⟨g, rfl, _, _⟩ := own_at h3 (by omega)
  refine ⟨g, 0, us.getD i (.slice none 0 0), rfl, ?_, hPQ _ _ _ _ (h4 i hi)⟩
  rw [Nat.zero_add, h3.cellAt i (by omega)]
  simp [show i < us.length by omega]
theorem OwR.nil (e : TypeId) (P : World → Value → α → List Nat → Prop) (w : World) : OwR e P w (.slice none 0 0) [] [] := ⟨[], [], rfl, rfl, ⟨rfl, .inl ⟨rfl, rfl⟩⟩, fun i hi => absurd hi (by simp), rfl⟩
/-- An element of a row that is owned, and what becomes of the row when the element becomes another one. -/
theorem OwR.at (hP : OwOk P) (h : OwR e P w v L F) (hF : F.Nodup) (i : Nat) (hi : i < L.length) : ∃ g cap u Fi, v = .slice (some ⟨g, 0, none⟩) L.length cap ∧ g ∈ F ∧ w.cell? ⟨g, i, none⟩ = some u ∧ P w u L[i] Fi ∧ Fi.Nodup ∧ g ∉ Fi ∧ (∀ x ∈ Fi, x ∈ F) ∧
    ∀ w' a', Wr Fi w w' → P w' u a' Fi → OwR e P w' v (L.set i a') F := by
  obtain ⟨us, Fs, h1, h2, h3, h4, rfl⟩ := h
  obtain ⟨ao, cap, rfl⟩ := own_form h3
  obtain ⟨g, rfl, _, _⟩ := own_at h3 (by omega)
  have hn := List.nodup_append.1 hF
  have hgb : g ∈ blk (Value.slice (some ⟨g, 0, none⟩) L.length cap) := mem_blk.2 rfl
  have hgi : ∀ j, j < L.length → g ∉ Fs.getD j [] := fun j hj hx => hn.2.2 g hgb g (flat_in (by omega) g hx) rfl
  refine ⟨g, cap, us.getD i (.slice none 0 0), Fs.getD i [], rfl, by simp [hgb], ?_, h4 i hi, ?_, hgi i hi, fun x hx => by simp [flat_in (show i < Fs.length by omega) x hx], fun w' a' hw hp => ?_⟩
  · rw [h3.cellAt i (by omega)]
    simp [show i < us.length by omega]
  · have := (List.pairwise_flatten.1 hn.2.1).1 (Fs.getD i []) (by rw [List.getD_eq_getElem?_getD, List.getElem?_eq_getElem (by omega)]; simp)
    exact this
  · refine ⟨us, Fs, by simp [h1], by simp [h2], ?_, fun j hj => ?_, rfl⟩
    · rw [List.length_set]
      exact own_sameAt h3 (fun x hx => hw.block x (h3.lt x hx).2 (by have e9 : g = x := Option.some.inj hx; subst e9; exact hgi i hi))
    · rw [List.length_set] at hj
      by_cases e9 : i = j
      · subst e9; simp; exact hp
      · rw [List.getElem_set_ne e9]
        exact hP.wr (h4 j hj) hw (flat_apart hn.2.1 (by omega) (by omega) (fun e => e9 e.symm))
/-- An element of a row that is owned, and what becomes of the row when the element becomes another one, in other blocks. -/
theorem OwR.turn (hP : OwOk P) (h : OwR e P w v L F) (hF : F.Nodup) (i : Nat) (hi : i < L.length) : ∃ g cap u Fi, v = .slice (some ⟨g, 0, none⟩) L.length cap ∧ w.cell? ⟨g, i, none⟩ = some u ∧ P w u L[i] Fi ∧ Fi.Nodup ∧ (∀ x ∈ Fi, x ∈ F) ∧
    ∀ w' a' Fi', Wr Fi w w' → P w' u a' Fi' → Fi'.Nodup → (∀ x ∈ Fi', x ∈ Fi ∨ x ∉ F) → ∃ F', OwR e P w' v (L.set i a') F' ∧ F'.Nodup ∧ ∀ x ∈ F', x ∈ F ∨ x ∈ Fi' := by
  obtain ⟨us, Fs, h1, h2, h3, h4, rfl⟩ := h
  obtain ⟨ao, cap, rfl⟩ := own_form h3
  obtain ⟨g, rfl, _, _⟩ := own_at h3 (by omega)
  have hn := List.nodup_append.1 hF
  have hgb : g ∈ blk (Value.slice (some ⟨g, 0, none⟩) L.length cap) := mem_blk.2 rfl
  have hgi : ∀ j, j < L.length → g ∉ Fs.getD j [] := fun j hj hx => hn.2.2 g hgb g (flat_in (by omega) g hx) rfl
  refine ⟨g, cap, us.getD i (.slice none 0 0), Fs.getD i [], rfl, ?_, h4 i hi, ?_, fun x hx => by simp [flat_in (show i < Fs.length by omega) x hx], fun w' a' Fi' hw hp hn' hd => ?_⟩
  · rw [h3.cellAt i (by omega)]
    simp [show i < us.length by omega]
  · have := (List.pairwise_flatten.1 hn.2.1).1 (Fs.getD i []) (by rw [List.getD_eq_getElem?_getD, List.getElem?_eq_getElem (by omega)]; simp)
    exact this
  · have hmem : ∀ x, x ∈ (Fs.set i Fi').flatten → x ∈ Fs.flatten ∨ x ∈ Fi' := by
      intro x hx
      obtain ⟨l, hl, hxl⟩ := List.mem_flatten.1 hx
      rcases List.mem_or_eq_of_mem_set hl with hl | rfl
      · exact .inl (List.mem_flatten.2 ⟨l, hl, hxl⟩)
      · exact .inr hxl
    have hdj : ∀ j, j < Fs.length → j ≠ i → ∀ x ∈ Fi', x ∉ Fs.getD j [] := fun j hj hji x hx hx2 => by
      rcases hd x hx with h5 | h5
      · exact flat_apart hn.2.1 (by omega) hj (fun e => hji e.symm) x h5 hx2
      · exact h5 (by simp [flat_in hj x hx2])
    have hgF : g ∉ Fi' := fun hx => by
      rcases hd g hx with h5 | h5
      · exact hgi i hi h5
      · exact h5 (by simp [hgb])
    refine ⟨blk (.slice (some ⟨g, 0, none⟩) L.length cap) ++ (Fs.set i Fi').flatten, ⟨us, Fs.set i Fi', by simp [h1], by simp [h2], ?_, fun j hj => ?_, rfl⟩, ?_, ?_⟩
    · rw [List.length_set]
      exact own_sameAt h3 (fun x hx => hw.block x (h3.lt x hx).2 (by have e9 : g = x := Option.some.inj hx; subst e9; exact hgi i hi))
    · rw [List.length_set] at hj
      by_cases e9 : i = j
      · subst e9
        have ef : (Fs.set i Fi').getD i [] = Fi' := by simp [show i < Fs.length by omega]
        rw [ef]
        simp only [List.getElem_set_self]
        exact hp
      · have ef : (Fs.set i Fi').getD j [] = Fs.getD j [] := by simp [e9]
        rw [ef, List.getElem_set_ne e9]
        exact hP.wr (h4 j hj) hw (flat_apart hn.2.1 (by omega) (by omega) (fun e => e9 e.symm))
    · refine List.nodup_append.2 ⟨hn.1, ?_, fun a ha b hb => ?_⟩
      · refine List.pairwise_flatten.2 ⟨fun l hl => ?_, ?_⟩
        · rcases List.mem_or_eq_of_mem_set hl with hl | rfl
          · exact (List.pairwise_flatten.1 hn.2.1).1 l hl
          · exact hn'
        · rw [List.pairwise_iff_getElem]
          intro p q hp1 hq1 hpq x hx y hy
          rw [List.length_set] at hp1 hq1
          rintro rfl
          have hin : ∀ r (hr : r < Fs.length), x ∈ (Fs.set i Fi')[r]'(by simpa using hr) → (r = i ∧ x ∈ Fi') ∨ (r ≠ i ∧ x ∈ Fs.getD r []) := by
            intro r hr hxr
            by_cases e9 : i = r
            · subst e9; simp at hxr; exact .inl ⟨rfl, hxr⟩
            · rw [List.getElem_set_ne e9] at hxr
              exact .inr ⟨fun e => e9 e.symm, by simpa [hr] using hxr⟩
          rcases hin p hp1 hx with ⟨e1, x1⟩ | ⟨e1, x1⟩ <;> rcases hin q hq1 hy with ⟨e2, x2⟩ | ⟨e2, x2⟩
          · omega
          · exact hdj q hq1 e2 x x1 x2
          · exact hdj p hp1 e1 x x2 x1
          · exact flat_apart hn.2.1 hp1 hq1 (by omega) x x1 x2
      · rintro rfl
        rcases hmem a hb with h5 | h5
        · exact hn.2.2 a ha a h5 rfl
        · have e9 : g = a := Option.some.inj (mem_blk.1 ha)
          subst e9
          exact hgF h5
    · intro x hx
      rcases List.mem_append.1 hx with hx | hx
      · exact .inl (by simp [hx])
      · rcases hmem x hx with h5 | h5
        · exact .inl (by simp [h5])
        · exact .inr h5
theorem OwR.slot (h : OwR e P w v L F) (i : Nat) (hi : i < L.length) : ∃ g cap u, v = .slice (some ⟨g, 0, none⟩) L.length cap ∧ w.cell? ⟨g, i, none⟩ = some u ∧ w.frozen? ⟨g, i, none⟩ = false := by
  obtain ⟨us, Fs, h1, h2, h3, h4, rfl⟩ := h
  obtain ⟨ao, cap, rfl⟩ := own_form h3
  obtain ⟨g, rfl, _, _⟩ := own_at h3 (by omega)
  refine ⟨g, cap, us.getD i (.slice none 0 0), rfl, ?_, h3.frozenAt i⟩
  rw [h3.cellAt i (by omega)]
  simp [show i < us.length by omega]
/-- An element of a row that is owned is another value. -/
theorem OwR.put (hP : OwOk P) (h : OwR e P w v L F) (hF : F.Nodup) (i : Nat) (hi : i < L.length) {g : Nat} (hg : v.ownBlock = some g) {u' : Value} {a' : α} {Fi' : List Nat} (hp : P w u' a' Fi') (hn' : Fi'.Nodup) (hd : ∀ x ∈ Fi', x ∉ F) :
    ∃ F', OwR e P (w.setCell ⟨g, i, none⟩ u') v (L.set i a') F' ∧ F'.Nodup ∧ ∀ x ∈ F', x ∈ F ∨ x ∈ Fi' := by
  obtain ⟨us, Fs, h1, h2, h3, h4, rfl⟩ := h
  obtain ⟨ao, cap, rfl⟩ := own_form h3
  obtain ⟨g0, rfl, _, _⟩ := own_at h3 (by omega)
  obtain rfl : g0 = g := Option.some.inj hg
  have hn := List.nodup_append.1 hF
  have hgb : g0 ∈ blk (Value.slice (some ⟨g0, 0, none⟩) L.length cap) := mem_blk.2 rfl
  have hgi : ∀ j, j < L.length → g0 ∉ Fs.getD j [] := fun j hj hx => hn.2.2 g0 hgb g0 (flat_in (by omega) g0 hx) rfl
  have s1 := h3.stored i u'
  have hgF : g0 ∉ Fi' := fun hx => hd g0 hx (by simp [hgb])
  have hw : Wr [g0] w (w.setCell ⟨g0, i, none⟩ u') := Wr.ofRow (grown_set w g0 i u') (fun x hx => by have := Option.some.inj hx; simp [this])
  have hmem : ∀ x, x ∈ (Fs.set i Fi').flatten → x ∈ Fs.flatten ∨ x ∈ Fi' := by
    intro x hx
    obtain ⟨l, hl, hxl⟩ := List.mem_flatten.1 hx
    rcases List.mem_or_eq_of_mem_set hl with hl | rfl
    · exact .inl (List.mem_flatten.2 ⟨l, hl, hxl⟩)
    · exact .inr hxl
  refine ⟨blk (.slice (some ⟨g0, 0, none⟩) L.length cap) ++ (Fs.set i Fi').flatten, ⟨us.set i u', Fs.set i Fi', by simp [h1], by simp [h2], ?_, fun j hj => ?_, rfl⟩, ?_, ?_⟩
  · rw [List.length_set]; exact s1.1
  · rw [List.length_set] at hj
    by_cases e9 : i = j
    · subst e9
      have eu : (us.set i u').getD i (.slice none 0 0) = u' := by simp [show i < us.length by omega]
      have ef : (Fs.set i Fi').getD i [] = Fi' := by simp [show i < Fs.length by omega]
      rw [eu, ef]
      simp only [List.getElem_set_self]
      exact hP.wr hp hw (fun x hx e => by simp at e; subst e; exact hgF hx)
    · have eu : (us.set i u').getD j (.slice none 0 0) = us.getD j (.slice none 0 0) := by simp [e9]
      have ef : (Fs.set i Fi').getD j [] = Fs.getD j [] := by simp [e9]
      rw [eu, ef, List.getElem_set_ne e9]
      exact hP.wr (h4 j hj) hw (fun x hx e => by simp at e; subst e; exact hgi j hj hx)
  · refine List.nodup_append.2 ⟨hn.1, ?_, fun a ha b hb => ?_⟩
    · refine List.pairwise_flatten.2 ⟨fun l hl => ?_, ?_⟩
      · rcases List.mem_or_eq_of_mem_set hl with hl | rfl
        · exact (List.pairwise_flatten.1 hn.2.1).1 l hl
        · exact hn'
      · rw [List.pairwise_iff_getElem]
        intro p q hp1 hq1 hpq x hx y hy
        rw [List.length_set] at hp1 hq1
        rintro rfl
        have hin : ∀ r (hr : r < Fs.length), x ∈ (Fs.set i Fi')[r]'(by simpa using hr) → (r = i ∧ x ∈ Fi') ∨ (r ≠ i ∧ x ∈ Fs.getD r []) := by
          intro r hr hxr
          by_cases e9 : i = r
          · subst e9; simp at hxr; exact .inl ⟨rfl, hxr⟩
          · rw [List.getElem_set_ne e9] at hxr
            exact .inr ⟨fun e => e9 e.symm, by simpa [hr] using hxr⟩
        rcases hin p hp1 hx with ⟨e1, x1⟩ | ⟨e1, x1⟩ <;> rcases hin q hq1 hy with ⟨e2, x2⟩ | ⟨e2, x2⟩
        · omega
        · exact hd x x1 (by simp [flat_in hq1 x x2])
        · exact hd x x2 (by simp [flat_in hp1 x x1])
        · exact flat_apart hn.2.1 hp1 hq1 (by omega) x x1 x2
    · rintro rfl
      rcases hmem a hb with h5 | h5
      · exact hn.2.2 a ha a h5 rfl
      · exact hd a h5 (by simp [ha])
  · intro x hx
    rcases List.mem_append.1 hx with hx | hx
    · exact .inl (by simp [hx])
    · rcases hmem x hx with h5 | h5
      · exact .inl (by simp [h5])
      · exact .inr h5
/-- A new row of rows that have nothing. -/
theorem OwR.made {β : Type} {P : World → Value → List β → List Nat → Prop} (hP : ∀ w, P w (.slice none 0 0) [] []) {w : World} {v : Value} {base n : Nat} {e : TypeId} (h : w.ownsRow base e 1 v n (List.replicate n (.slice none 0 0))) : OwR e P w v (List.replicate n []) (blk v) := by
  refine ⟨List.replicate n (.slice none 0 0), List.replicate n [], by simp, by simp, by rw [List.length_replicate]; exact own_base h (Nat.zero_le _), fun i hi => ?_, ?_⟩
  · rw [List.length_replicate] at hi
    have e1 : (List.replicate n (Value.slice none 0 0)).getD i (.slice none 0 0) = .slice none 0 0 := by simp [hi]
    have e2 : (List.replicate n ([] : List Nat)).getD i [] = [] := by simp [hi]
    rw [e1, e2, List.getElem_replicate]
    exact hP w
  · have : (List.replicate n ([] : List Nat)).flatten = [] := by simp
    rw [this, List.append_nil]
theorem blk_nodup (v : Value) : (blk v).Nodup := by unfold blk; cases v.ownBlock <;> simp
end

end Go.Proofs.YtjkokbijnaodnaaGreat

namespace Go.Proofs.YtjkokbijnaodnaaGreat
open Go.RowKit

def ToC {α : Type} (f : Nat) (Q : World → Value → α → Prop) (P : World → Value → α → List Nat → Prop) (sz : α → Nat) : Prop :=
  ∀ (w : World) (u : Value) (a : α), Q w u a → sz a ≤ 1048576 → Calls Tryz.prog f #[u] w fun e w' => ∃ u' F, e = .returned u' ∧ P w' u' a F ∧ F.Nodup ∧ (∀ g ∈ F, w.heap.size ≤ g) ∧ w.grownBy w' none
def EqC {α : Type} (f : Nat) (Q : World → Value → α → Prop) (sz : α → Nat) : Prop :=
  ∀ (w : World) (u u' : Value) (a : α), Q w u a → Q w u' a → sz a ≤ 1048576 → Calls Tryz.prog f #[u, u'] w fun e w' => e = .returned (.bool true) ∧ w.grownBy w' none
def MarkC {α : Type} (f : Nat) (P : World → Value → α → List Nat → Prop) (mk : α → Int → α) (cnt sz : α → Nat) : Prop :=
  ∀ (w : World) (u : Value) (a : α) (F : List Nat) (k : Int), P w u a F → F.Nodup → sz a ≤ 1048576 → 0 ≤ k → k + cnt a ≤ 16777216 → Calls Tryz.prog f #[u, .int .i64 k] w fun e w' => e = .returned (.int .i64 (k + cnt a)) ∧ P w' u (mk a k) F ∧ Wr F w w'
def HeldC {α : Type} (f : Nat) (Q : World → Value → α → Prop) (mk : α → Int → α) (cnt sz : α → Nat) : Prop :=
  ∀ (w : World) (u : Value) (a : α) (k : Int), Q w u (mk a k) → sz a ≤ 1048576 → 0 ≤ k → k + cnt a ≤ 16777216 → Calls Tryz.prog f #[u, .int .i64 k] w fun e w' => e = .returned (.int .i64 (k + cnt a)) ∧ w.grownBy w' none
/-- How much there is, as the laws count it: within what is left, or not. -/
def SzC {α : Type} (f : Nat) (Q : World → Value → α → Prop) (sz : α → Nat) : Prop :=
  ∀ (w : World) (u : Value) (a : α) (left : Nat), Q w u a → left ≤ 1048576 → Calls Tryz.prog f #[u, .int .i64 left] w fun e w' => e = .returned (.int .i64 (if sz a ≤ left then (left : Int) - sz a else -1)) ∧ w' = w

/-- What came in is no longer than a slice can be. -/
def RdZ {β : Type} (Q : World → Value → List β → Prop) (w : World) (v : Value) (L : List β) : Prop := Q w v L ∧ L.length ≤ maxLen

def sumN : List Nat → Nat
  | [] => 0
  | x :: r => x + sumN r
theorem sumN_append : ∀ a b : List Nat, sumN (a ++ b) = sumN a + sumN b
  | [], b => by simp [sumN]
  | x :: r, b => by simp [sumN, sumN_append r b]; omega
def cntR {α : Type} (cnt : α → Nat) (L : List α) : Nat := sumN (L.map cnt)
def szR {α : Type} (sz : α → Nat) (L : List α) : Nat := L.length + sumN (L.map sz)
def mkR {α : Type} (mk : α → Int → α) (cnt : α → Nat) : List α → Int → List α
  | [], _ => []
  | a :: r, k => mk a k :: mkR mk cnt r (k + cnt a)
theorem mkR_len {α : Type} (mk : α → Int → α) (cnt : α → Nat) : ∀ (L : List α) (k : Int), (mkR mk cnt L k).length = L.length
  | [], _ => rfl
  | a :: r, k => by rw [mkR, List.length_cons, List.length_cons, mkR_len mk cnt r]
theorem take_next {α β : Type} (f : α → β) (L : List α) (i : Nat) (h : i < L.length) : (L.take (i + 1)).map f = (L.take i).map f ++ [f L[i]] := by
  rw [List.take_succ_eq_append_getElem h, List.map_append]; rfl
theorem cntR_next {α : Type} (cnt : α → Nat) (L : List α) (i : Nat) (h : i < L.length) : cntR cnt (L.take (i + 1)) = cntR cnt (L.take i) + cnt L[i] := by
  unfold cntR; rw [take_next cnt L i h, sumN_append]; simp [sumN]
theorem cntR_le {α : Type} (cnt : α → Nat) (L : List α) (i : Nat) : cntR cnt (L.take i) ≤ cntR cnt L := by
  have e : L.map cnt = (L.take i).map cnt ++ (L.drop i).map cnt := by rw [← List.map_append, List.take_append_drop]
  unfold cntR; rw [e, sumN_append]; omega
theorem cntR_all {α : Type} (cnt : α → Nat) (L : List α) : cntR cnt (L.take L.length) = cntR cnt L := by rw [List.take_length]
theorem szR_el {α : Type} (sz : α → Nat) (L : List α) (i : Nat) (h : i < L.length) : L.length ≤ szR sz L ∧ sz L[i] ≤ szR sz L := by
  have h1 := cntR_next sz L i h
  have h2 := cntR_le sz L (i + 1)
  have h3 : cntR sz L = sumN (L.map sz) := rfl
  unfold szR
  omega
theorem szR_len {α : Type} (sz : α → Nat) (L : List α) : L.length ≤ szR sz L := by unfold szR; omega
theorem mkR_at {α : Type} (mk : α → Int → α) (cnt : α → Nat) : ∀ (L : List α) (k : Int) (i : Nat) (h : i < L.length), (mkR mk cnt L k)[i]'(by rw [mkR_len]; exact h) = mk L[i] (k + cntR cnt (L.take i))
  | a :: r, k, 0, _ => by simp [mkR, cntR, sumN]
  | a :: r, k, i + 1, h => by
    have hi : i < r.length := by simpa using h
    have ih := mkR_at mk cnt r (k + cnt a) i hi
    have e : cntR cnt ((a :: r).take (i + 1)) = cnt a + cntR cnt (r.take i) := by simp [cntR, sumN]
    simp only [mkR, List.getElem_cons_succ, ih, e]
    congr 1
    omega
/-- So far marked. -/
def overR {α : Type} (mk : α → Int → α) (cnt : α → Nat) (L : List α) (k : Int) (i : Nat) : List α := mkR mk cnt (L.take i) k ++ L.drop i
theorem overR_len {α : Type} (mk : α → Int → α) (cnt : α → Nat) (L : List α) (k : Int) (i : Nat) (h : i ≤ L.length) : (overR mk cnt L k i).length = L.length := by
  unfold overR; rw [List.length_append, mkR_len, List.length_take, List.length_drop]; omega
theorem overR_at {α : Type} (mk : α → Int → α) (cnt : α → Nat) (L : List α) (k : Int) (i : Nat) (h : i < L.length) : (overR mk cnt L k i)[i]'(by rw [overR_len _ _ _ _ _ (by omega)]; exact h) = L[i] := by
  unfold overR
  rw [List.getElem_append_right (by rw [mkR_len, List.length_take]; omega)]
  simp only [mkR_len, List.length_take, List.getElem_drop]
  congr 1
  omega
theorem mkR_snoc {α : Type} (mk : α → Int → α) (cnt : α → Nat) : ∀ (A : List α) (b : α) (k : Int), mkR mk cnt (A ++ [b]) k = mkR mk cnt A k ++ [mk b (k + cntR cnt A)]
  | [], b, k => by simp [mkR, cntR, sumN]
  | a :: r, b, k => by
    rw [List.cons_append, mkR, mkR_snoc mk cnt r b, mkR, List.cons_append]
    have e : cntR cnt (a :: r) = cnt a + cntR cnt r := by simp [cntR, sumN]
    rw [e]
    congr 4
    omega
theorem overR_set {α : Type} (mk : α → Int → α) (cnt : α → Nat) (L : List α) (k : Int) (i : Nat) (h : i < L.length) : (overR mk cnt L k i).set i (mk L[i] (k + cntR cnt (L.take i))) = overR mk cnt L k (i + 1) := by
  unfold overR
  have hl : (mkR mk cnt (L.take i) k).length = i := by rw [mkR_len, List.length_take]; omega
  rw [List.set_append_right _ _ (by omega), hl, Nat.sub_self, List.drop_eq_getElem_cons h, List.set_cons_zero, List.take_succ_eq_append_getElem h, mkR_snoc, List.append_assoc]
  rfl
theorem overR_all {α : Type} (mk : α → Int → α) (cnt : α → Nat) (L : List α) (k : Int) : overR mk cnt L k L.length = mkR mk cnt L k := by unfold overR; rw [List.take_length, List.drop_length, List.append_nil]

/-- The numbers of a row. -/
def lenI (xs : List Int) : Nat := xs.length
def mkI (xs : List Int) (k : Int) : List Int := marks .i64 k xs.length

end Go.Proofs.YtjkokbijnaodnaaGreat
