/-
  Facts on rows of numbers that a call owns, and on worlds that have grown, for the walks of this seat.
-/
import Derived.WalkKit
import Derived.ProofKit
import Derived.Below
import Derived.WalkSpells
import Derived.Deep.QuietTactic
import Derived.BigQuiet
import Derived.Deep.RegionWith
namespace Go.Proofs.Ytgknninkfdgebaa
open Go.RowKit

/-- What is read through a slice of numbers: cell i behind its head holds number i. -/
def Rd (k : IntKind) (w : World) (ao : Option Addr) (n : Nat) (zs : List Int) : Prop :=
  zs.length = n ∧ ∀ i, i < n → ∃ b off, ao = some ⟨b, off, none⟩ ∧ w.cell? ⟨b, off + i, none⟩ = some (.int k (zs.getD i 0))

theorem hide {p : Prop} (h : p) : Hid p := h
theorem unhide {p : Prop} (h : Hid p) : p := h

theorem i64_in (n : Int) (h : -9223372036854775808 ≤ n ∧ n ≤ 9223372036854775807) : IntKind.i64.wrap n = n := by
  rw [IntKind.wrap_i64]; omega
theorem ret_bool {a b : Bool} (h : a = b) : Ending.returned (.bool a) = .returned (.bool b) := by rw [h]

theorem grown_trans {a b c : World} {row : Option Nat} (h : a.grownBy b row) (g : b.grownBy c row) : a.grownBy c row :=
  ⟨g.os.trans h.os, g.tape.trans h.tape, g.output.trans h.output, Nat.le_trans h.size g.size, fun k hk hr => (g.block k (Nat.lt_of_lt_of_le hk h.size) hr).trans (h.block k hk hr)⟩

/-- A world that has grown by new rows alone, and then by writes into one of these. -/
theorem grown_new {a b c : World} {row : Option Nat} (h : a.grownBy b none) (hg : b.grownBy c row) (hge : ∀ g, row = some g → a.heap.size ≤ g) : a.grownBy c none :=
  ⟨hg.os.trans h.os, hg.tape.trans h.tape, hg.output.trans h.output, Nat.le_trans h.size hg.size, fun k hk hr => (hg.block k (Nat.lt_of_lt_of_le hk h.size) (by intro e; have := hge k e.symm; omega)).trans (h.block k hk hr)⟩

theorem grown_alloc {a b : World} (h : a.grownBy b none) (o : Obj) : a.grownBy (b.alloc o) none := grown_trans h (World.grownBy_alloc _ _ _)
theorem grown_any {a b : World} {row : Option Nat} (h : a.grownBy b none) : a.grownBy b row := ⟨h.os, h.tape, h.output, h.size, fun k hk _ => h.block k hk (by simp)⟩
theorem grown_drewN {a b : World} {row : Option Nat} (h : a.grownBy b row) (q : Nat) : a.grownBy (b.drewN q) row := ⟨h.os, h.tape, h.output, h.size, h.block⟩
theorem grown_drew {a b : World} {row : Option Nat} (h : a.grownBy b row) : a.grownBy b.drew row := ⟨h.os, h.tape, h.output, h.size, h.block⟩
theorem grown_below {a b : World} (h : a.grownBy b none) : Below a.heap.size a b := ⟨h.os, h.tape, h.output, h.size, fun k hk => h.block k hk (by simp)⟩

theorem Rd.grown {k : IntKind} {w w' : World} {ao : Option Addr} {n : Nat} {zs : List Int} (h : Rd k w ao n zs) (hg : w.grownBy w' none) : Rd k w' ao n zs :=
  ⟨h.1, fun i hi => by obtain ⟨b, off, e, hc⟩ := h.2 i hi; exact ⟨b, off, e, hg.cell hc (by simp)⟩⟩
/-- What is read stays when a row beside it is written. -/
theorem Rd.beside {k : IntKind} {w w' : World} {ao : Option Addr} {n g : Nat} {zs : List Int} (h : Rd k w ao n zs) (hg : w.grownBy w' (some g)) (hne : 0 < n → ∀ b off, ao = some ⟨b, off, none⟩ → b ≠ g) : Rd k w' ao n zs :=
  ⟨h.1, fun i hi => by obtain ⟨b, off, e, hc⟩ := h.2 i hi; exact ⟨b, off, e, hg.cell hc (by simp; exact hne (by omega) b off e)⟩⟩
theorem Rd.lt {k : IntKind} {w : World} {ao : Option Addr} {n : Nat} {zs : List Int} (h : Rd k w ao n zs) : 0 < n → ∀ b off, ao = some ⟨b, off, none⟩ → b < w.heap.size := by
  intro hn b off e
  obtain ⟨b', off', e', hc⟩ := h.2 0 hn
  rw [e] at e'
  simp at e'
  rw [e'.1]
  exact World.block_lt_of_cell? w _ hc
theorem Rd.drewN {k : IntKind} {w : World} {ao : Option Addr} {n : Nat} {zs : List Int} (h : Rd k w ao n zs) (q : Nat) : Rd k (w.drewN q) ao n zs := h

/-- A slice that came in, as the row's step hands it over. -/
theorem rd_of_row {K : IntKind} {w : World} {x : Addr} {n cap : Nat} {zs : List Int} (hl : n ≤ cap) (hz : zs.length = cap) (hcell : ∀ i, i < zs.length → w.cell? (x.add i) = some (.int K (zs.getD i 0))) : Rd K w (some x) n (zs.take n) := by
  refine ⟨by simp; omega, fun i hi => ?_⟩
  obtain ⟨b, off, spot⟩ := x
  have hc := hcell i (by omega)
  have hspot : spot = none := by simpa [Addr.add] using World.cell?_spot (hcell 0 (by omega))
  subst hspot
  refine ⟨b, off, rfl, ?_⟩
  have e : (zs.take n).getD i 0 = zs.getD i 0 := by simp [hi]
  rw [e]
  rw [Addr.add_lit] at hc
  exact hc

/-- What lies between two bounds, with nought between them, does so wherever it is asked for. -/
theorem take_within {zs : List Int} {lo hi : Int} (h : ∀ q ∈ zs, lo ≤ q ∧ q ≤ hi) (n i : Nat) (h0 : lo ≤ 0 ∧ 0 ≤ hi) : lo ≤ (zs.take n).getD i 0 ∧ (zs.take n).getD i 0 ≤ hi := by
  by_cases hi' : i < (zs.take n).length
  · have e : (zs.take n).getD i 0 = (zs.take n)[i] := by rw [List.getD_eq_getElem?_getD, List.getElem?_eq_getElem hi']; rfl
    rw [e]
    exact h _ (List.mem_of_mem_take (List.getElem_mem hi'))
  · have e : (zs.take n).getD i 0 = 0 := by rw [List.getD_eq_getElem?_getD, List.getElem?_eq_none (by omega)]; rfl
    rw [e]
    exact h0

section
variable {w : World} {base : Nat} {e : TypeId} {ao : Option Addr} {n cap : Nat}

theorem own_form {v : Value} {size : Nat} {xs : List Value} (h : w.ownsRow base e size v n xs) : ∃ ao cap, v = .slice ao n cap := by
  rcases h.2 with ⟨h1, h2⟩ | ⟨g, cap, _, h1, _⟩
  · subst h2; exact ⟨_, _, h1⟩
  · exact ⟨_, _, h1⟩

theorem own_at {size : Nat} {xs : List Value} (h : w.ownsRow base e size (.slice ao n cap) n xs) (hn : 0 < n) : ∃ g, ao = some ⟨g, 0, none⟩ ∧ base ≤ g ∧ g < w.heap.size := by
  rcases h.2 with ⟨_, h2⟩ | ⟨g, cap', _, h1, hb, hh, _⟩
  · omega
  · simp only [Value.slice.injEq, true_and] at h1
    exact ⟨g, h1.1, hb, by obtain ⟨h, _⟩ := Array.getElem?_eq_some_iff.1 hh; exact h⟩

theorem own_rd {k : IntKind} {zs : List Int} (h : w.ownsRow base e 1 (.slice ao n cap) n (zs.map (Value.int k))) : Rd k w ao n zs := by
  have hl : zs.length = n := by have := h.1; simpa using this
  refine ⟨hl, fun i hi => ?_⟩
  obtain ⟨g, rfl, _, _⟩ := own_at h (by omega)
  refine ⟨g, 0, rfl, ?_⟩
  rw [Nat.zero_add, h.cellAt i (by omega)]
  simp [show i < zs.length by omega]

theorem own_drewN {v : Value} {size : Nat} {xs : List Value} (h : w.ownsRow base e size v n xs) (q : Nat) : (w.drewN q).ownsRow base e size v n xs := h

theorem own_base {v : Value} {size base' : Nat} {xs : List Value} (h : w.ownsRow base e size v n xs) (hb : base' ≤ base) : w.ownsRow base' e size v n xs :=
  by
  rcases h with ⟨h0, h1 | ⟨g, cap, cur, h1, h2, r⟩⟩
  · exact ⟨h0, .inl h1⟩
  · exact ⟨h0, .inr ⟨g, cap, cur, h1, by omega, r⟩⟩

/-- What is owned stays owned when only new rows come. -/
theorem own_grown {w' : World} {v : Value} {size : Nat} {xs : List Value} (h : w.ownsRow base e size v n xs) (hg : w.grownBy w' none) : w'.ownsRow base e size v n xs :=
  h.kept (grown_any hg (row := none)) (by cases hv : v.ownBlock <;> simp)

/-- What is owned from a higher number on stays owned when a lower row is written. -/
theorem own_above {w' : World} {v u : Value} {size : Nat} {xs : List Value} (h : w.ownsRow base e size v n xs) (hg : w.grownBy w' u.ownBlock)
    (hlt : ∀ g, u.ownBlock = some g → g < base) : w'.ownsRow base e size v n xs :=
  h.kept hg (by
    cases hv : v.ownBlock with
    | none => exact .inl rfl
    | some g => refine .inr (fun e => ?_); have := hlt g e.symm; have := (h.lt g hv).1; omega)

/-- What is owned by rows below a number stays owned when a row from that number on is written. -/
theorem own_beneath {w' : World} {v : Value} {size : Nat} {row : Option Nat} {xs : List Value} (h : w.ownsRow base e size v n xs) (hg : w.grownBy w' row)
    (hlt : ∀ g g', v.ownBlock = some g → row = some g' → g ≠ g') : w'.ownsRow base e size v n xs :=
  h.kept hg (by
    cases hv : v.ownBlock with
    | none => exact .inl rfl
    | some g =>
      refine .inr (fun e => ?_)
      exact hlt g g hv e.symm rfl)
end

/-- What a copy holds behind k rounds. -/
def part (K : IntKind) (zs : List Int) (k : Nat) : List Value := (zs.take k).map (Value.int K) ++ List.replicate (zs.length - k) (.int K 0)

theorem part_zero (K : IntKind) (zs : List Int) : part K zs 0 = List.replicate zs.length (.int K 0) := by simp [part]
theorem part_all (K : IntKind) (zs : List Int) : part K zs zs.length = zs.map (Value.int K) := by simp [part]
theorem part_len (K : IntKind) (zs : List Int) (k : Nat) (h : k ≤ zs.length) : (part K zs k).length = zs.length := by simp [part]; omega
theorem part_get (K : IntKind) (zs : List Int) (k j : Nat) (hk : k ≤ zs.length) (hj : j < zs.length) : (part K zs k)[j]? = some (.int K (if j < k then zs.getD j 0 else 0)) := by
  unfold part
  by_cases h : j < k
  · rw [List.getElem?_append_left (by simp; omega)]
    simp [h, hj]
  · rw [List.getElem?_append_right (by simp; omega), List.getElem?_replicate, if_pos (by simp; omega), if_neg h]
theorem part_set (K : IntKind) (zs : List Int) (k : Nat) (h : k < zs.length) : (part K zs k).set k (.int K (zs.getD k 0)) = part K zs (k + 1) := by
  apply List.ext_getElem?
  intro j
  by_cases hj : j < zs.length
  · rw [List.getElem?_set, part_get K zs (k + 1) j (by omega) hj, part_get K zs k j (by omega) hj, part_len K zs k (by omega)]
    by_cases e : k = j
    · subst e; simp [h]
    · rw [if_neg e]
      by_cases h1 : j < k
      · rw [if_pos h1, if_pos (by omega)]
      · rw [if_neg h1, if_neg (by omega)]
  · rw [List.getElem?_eq_none (by rw [List.length_set, part_len K zs k (by omega)]; omega), List.getElem?_eq_none (by rw [part_len K zs (k + 1) (by omega)]; omega)]

/-- The marks that are laid over a row, from k on, each as its kind holds it. -/
def marks (K : IntKind) (k : Int) (n : Nat) : List Int := (List.range n).map (fun i : Nat => K.wrap (k + (i : Int)))
theorem marks_len (K : IntKind) (k : Int) (n : Nat) : (marks K k n).length = n := by simp [marks]
theorem marks_get (K : IntKind) (k : Int) (n i : Nat) (h : i < n) : (marks K k n).getD i 0 = K.wrap (k + i) := by simp [marks, h]

/-- A row behind j rounds of marking. -/
def over (K : IntKind) (k : Int) (xs : List Value) (j : Nat) : List Value := (marks K k j).map (Value.int K) ++ xs.drop j
theorem over_zero (K : IntKind) (k : Int) (xs : List Value) : over K k xs 0 = xs := by simp [over, marks]
theorem over_all (K : IntKind) (k : Int) (xs : List Value) : over K k xs xs.length = (marks K k xs.length).map (Value.int K) := by simp [over]
theorem over_set (K : IntKind) (k : Int) (xs : List Value) (j : Nat) (h : j < xs.length) : (over K k xs j).set j (.int K (K.wrap (k + j))) = over K k xs (j + 1) := by
  unfold over
  rw [List.set_append_right _ _ (by simp [marks_len])]
  have e : marks K k (j + 1) = marks K k j ++ [K.wrap (k + j)] := by simp [marks, List.range_succ]
  rw [e, List.map_append, List.append_assoc]
  congr 1
  rw [List.length_map, marks_len, Nat.sub_self, List.drop_eq_getElem_cons h]
  rfl

theorem grown_set (w : World) (g j : Nat) (u : Value) : w.grownBy (w.setCell ⟨g, j, none⟩ u) (some g) :=
  ⟨rfl, rfl, rfl, by simp, fun k _ hk => heap_setCell_other w ⟨g, j, none⟩ k u (fun e => hk (by simp [e]))⟩

theorem grown_set' (w : World) (q g j : Nat) (u : Value) : w.grownBy ((w.drewN q).setCell ⟨g, j, none⟩ u) (some g) := grown_trans (grown_drewN (World.grownBy.refl _ _) q) (grown_set _ _ _ _)

theorem drop_at (zs : List Int) (k : Nat) (h : k < zs.length) : zs.drop k = zs.getD k 0 :: zs.drop (k + 1) := by
  rw [List.drop_eq_getElem_cons h]; simp [h]

theorem and1_i64 (x : Int) (h0 : 0 ≤ x) (h1 : x < 9223372036854775808) : bits BinOp.and IntKind.i64 x 1 = x % 2 := by
  have e63 : (2 : Int) ^ 63 = 9223372036854775808 := by decide
  have h := bits_mask .i64 63 (by decide) (fun n h0 h1 => by rw [e63] at h1; rw [IntKind.wrap_i64]; omega) 1 (by decide) x h0 (by rw [e63]; omega)
  have e : ((2 : Int) ^ 1 - 1) = 1 := by decide
  rw [e] at h
  rw [h]
  rfl
theorem and1_u8 (x : Int) (h0 : 0 ≤ x) (h1 : x < 256) : bits BinOp.and IntKind.u8 x 1 = x % 2 := by
  have e8 : (2 : Int) ^ 8 = 256 := by decide
  have h := bits_mask .u8 8 (by decide) (fun n h0 h1 => by rw [e8] at h1; rw [IntKind.wrap_u8]; omega) 1 (by decide) x h0 (by rw [e8]; omega)
  have e : ((2 : Int) ^ 1 - 1) = 1 := by decide
  rw [e] at h
  rw [h]
  rfl
theorem shr_bound (x : Int) (h0 : 0 ≤ x) (h1 : x ≤ 255) (s : Nat) : 0 ≤ x / 2 ^ s ∧ x / 2 ^ s < 256 := by
  have hp : (0 : Int) < 2 ^ s := Int.pow_pos (by decide)
  have h2 := Int.ediv_nonneg h0 (Int.le_of_lt hp)
  have h3 := Int.ediv_le_self (2 ^ s) h0
  omega
theorem ret_int {k : IntKind} {a b : Int} (h : a = b) : Ending.returned (.int k a) = .returned (.int k b) := by rw [h]

theorem shr_small (x : Int) (h0 : 0 ≤ x) (h1 : x < 65536) (s : Nat) : 0 ≤ x / 2 ^ s ∧ x / 2 ^ s < 65536 := by
  have hp : (0 : Int) < 2 ^ s := Int.pow_pos (by decide)
  have h2 := Int.ediv_nonneg h0 (Int.le_of_lt hp)
  have h3 := Int.ediv_le_self (2 ^ s) h0
  omega

theorem pow_small (x : Int) (h1 : x ≤ 16) : (1 : Int) ≤ 2 ^ x.toNat ∧ (2 : Int) ^ x.toNat ≤ 65536 := by
  have h : x.toNat ≤ 16 := by omega
  generalize x.toNat = m at h
  have h3 : (2 : Nat) ^ m ≤ 2 ^ 16 := Nat.pow_le_pow_right (by omega) h
  have h4 : 1 ≤ (2 : Nat) ^ m := Nat.one_le_two_pow
  have e : ((2 : Nat) ^ m : Int) = (2 : Int) ^ m := by norm_cast
  omega
theorem shl_sub (x : Int) (h1 : x ≤ 16) : wrap64 (wrap64 (2 ^ x.toNat) - 1) = 2 ^ x.toNat - 1 := by
  have h := pow_small x h1
  rw [IntWalk.wrap64_in (2 ^ x.toNat) (by omega), IntWalk.wrap64_in (2 ^ x.toNat - 1) (by omega)]

end Go.Proofs.Ytgknninkfdgebaa
