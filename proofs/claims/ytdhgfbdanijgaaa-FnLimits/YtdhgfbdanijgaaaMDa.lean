/-
  Kit, FieldRows, FieldsOk, InfoInt, InfoByte, RowsK, SegRows, SegOkSpec, SegOkImpl, FramePure, FrameImpl, FrameImpl2.
-/
import Derived.WalkKit
import Derived.ProofKit
import Derived.Below
import Derived.WalkSpells
import Derived.Deep.QuietTactic
import Derived.BigQuiet
import Derived.Deep.RegionWith
import Derived.Test.YtdhgfbdanijgaaaRows
import Derived.Deep.WholeRow
import Derived.Deep.MidRow

namespace Go.Proofs.Ytdhgfbdanijgaaa
open Go.RowKit

/-- What is read through a slice of numbers: cell i behind its head holds number i. -/
def Rd (k : IntKind) (w : World) (ao : Option Addr) (n : Nat) (zs : List Int) : Prop :=
  zs.length = n ∧ ∀ i, i < n → ∃ b off, ao = some ⟨b, off, none⟩ ∧ w.cell? ⟨b, off + i, none⟩ = some (.int k (zs.getD i 0))

theorem hide {p : Prop} (h : p) : Hid p := h
theorem unhide {p : Prop} (h : Hid p) : p := h

theorem i64_in (n : Int) (h : -9223372036854775808 ≤ n ∧ n ≤ 9223372036854775807) : IntKind.i64.wrap n = n := by
  rw [IntKind.wrap_i64]; omega
theorem ret_bool {a b : Bool} (h : a = b) : Ending.returned (.bool a) = .returned (.bool b) := by rw [h]

theorem grown_trans {a b c : World} {row : Option Nat} (h : a.grownBy b row) (g : b.grownBy c row) : a.grownBy c row :=
  ⟨g.os.trans h.os, g.tape.trans h.tape, g.output.trans h.output, Nat.le_trans h.size g.size, fun k hk hr => (g.block k (Nat.lt_of_lt_of_le hk h.size) hr).trans (h.block k hk hr)⟩

/-- A world that has grown by new rows alone, and then by writes into one of these. -/
theorem grown_new {a b c : World} {row : Option Nat} (h : a.grownBy b none) (hg : b.grownBy c row) (hge : ∀ g, row = some g → a.heap.size ≤ g) : a.grownBy c none :=
  ⟨hg.os.trans h.os, hg.tape.trans h.tape, hg.output.trans h.output, Nat.le_trans h.size hg.size, fun k hk hr => (hg.block k (Nat.lt_of_lt_of_le hk h.size) (by intro e; have := hge k e.symm; omega)).trans (h.block k hk hr)⟩

theorem grown_alloc {a b : World} (h : a.grownBy b none) (o : Obj) : a.grownBy (b.alloc o) none := grown_trans h (World.grownBy_alloc _ _ _)
theorem grown_any {a b : World} {row : Option Nat} (h : a.grownBy b none) : a.grownBy b row := ⟨h.os, h.tape, h.output, h.size, fun k hk _ => h.block k hk (by simp)⟩
theorem grown_drewN {a b : World} {row : Option Nat} (h : a.grownBy b row) (q : Nat) : a.grownBy (b.drewN q) row := ⟨h.os, h.tape, h.output, h.size, h.block⟩
theorem grown_drew {a b : World} {row : Option Nat} (h : a.grownBy b row) : a.grownBy b.drew row := ⟨h.os, h.tape, h.output, h.size, h.block⟩
theorem grown_below {a b : World} (h : a.grownBy b none) : Below a.heap.size a b := ⟨h.os, h.tape, h.output, h.size, fun k hk => h.block k hk (by simp)⟩

theorem Rd.grown {k : IntKind} {w w' : World} {ao : Option Addr} {n : Nat} {zs : List Int} (h : Rd k w ao n zs) (hg : w.grownBy w' none) : Rd k w' ao n zs :=
  ⟨h.1, fun i hi => by obtain ⟨b, off, e, hc⟩ := h.2 i hi; exact ⟨b, off, e, hg.cell hc (by simp)⟩⟩
/-- What is read stays when a row beside it is written. -/
theorem Rd.beside {k : IntKind} {w w' : World} {ao : Option Addr} {n g : Nat} {zs : List Int} (h : Rd k w ao n zs) (hg : w.grownBy w' (some g)) (hne : 0 < n → ∀ b off, ao = some ⟨b, off, none⟩ → b ≠ g) : Rd k w' ao n zs :=
  ⟨h.1, fun i hi => by obtain ⟨b, off, e, hc⟩ := h.2 i hi; exact ⟨b, off, e, hg.cell hc (by simp; exact hne (by omega) b off e)⟩⟩
theorem Rd.lt {k : IntKind} {w : World} {ao : Option Addr} {n : Nat} {zs : List Int} (h : Rd k w ao n zs) : 0 < n → ∀ b off, ao = some ⟨b, off, none⟩ → b < w.heap.size := by
  intro hn b off e
  obtain ⟨b', off', e', hc⟩ := h.2 0 hn
  rw [e] at e'
  simp at e'
  rw [e'.1]
  exact World.block_lt_of_cell? w _ hc
theorem Rd.drewN {k : IntKind} {w : World} {ao : Option Addr} {n : Nat} {zs : List Int} (h : Rd k w ao n zs) (q : Nat) : Rd k (w.drewN q) ao n zs := h

/-- A slice that came in, as the row's step hands it over. -/
theorem rd_of_row {K : IntKind} {w : World} {x : Addr} {n cap : Nat} {zs : List Int} (hl : n ≤ cap) (hz : zs.length = cap) (hcell : ∀ i, i < zs.length → w.cell? (x.add i) = some (.int K (zs.getD i 0))) : Rd K w (some x) n (zs.take n) := by
  refine ⟨by simp; omega, fun i hi => ?_⟩
  obtain ⟨b, off, spot⟩ := x
  have hc := hcell i (by omega)
  have hspot : spot = none := by simpa [Addr.add] using World.cell?_spot (hcell 0 (by omega))
  subst hspot
  refine ⟨b, off, rfl, ?_⟩
  have e : (zs.take n).getD i 0 = zs.getD i 0 := by simp [hi]
  rw [e]
  rw [Addr.add_lit] at hc
  exact hc

/-- What lies between two bounds, with nought between them, does so wherever it is asked for. -/
theorem take_within {zs : List Int} {lo hi : Int} (h : ∀ q ∈ zs, lo ≤ q ∧ q ≤ hi) (n i : Nat) (h0 : lo ≤ 0 ∧ 0 ≤ hi) : lo ≤ (zs.take n).getD i 0 ∧ (zs.take n).getD i 0 ≤ hi := by
  by_cases hi' : i < (zs.take n).length
  · have e : (zs.take n).getD i 0 = (zs.take n)[i] := by rw [List.getD_eq_getElem?_getD, List.getElem?_eq_getElem hi']; rfl
    rw [e]
    exact h _ (List.mem_of_mem_take (List.getElem_mem hi'))
  · have e : (zs.take n).getD i 0 = 0 := by rw [List.getD_eq_getElem?_getD, List.getElem?_eq_none (by omega)]; rfl
    rw [e]
    exact h0

section
variable {w : World} {base : Nat} {e : TypeId} {ao : Option Addr} {n cap : Nat}

theorem own_form {v : Value} {size : Nat} {xs : List Value} (h : w.ownsRow base e size v n xs) : ∃ ao cap, v = .slice ao n cap := by
  rcases h.2 with ⟨h1, h2⟩ | ⟨g, cap, _, h1, _⟩
  · subst h2; exact ⟨_, _, h1⟩
  · exact ⟨_, _, h1⟩

theorem own_at {size : Nat} {xs : List Value} (h : w.ownsRow base e size (.slice ao n cap) n xs) (hn : 0 < n) : ∃ g, ao = some ⟨g, 0, none⟩ ∧ base ≤ g ∧ g < w.heap.size := by
  rcases h.2 with ⟨_, h2⟩ | ⟨g, cap', _, h1, hb, hh, _⟩
  · omega
  · simp only [Value.slice.injEq, true_and] at h1
    exact ⟨g, h1.1, hb, by obtain ⟨h, _⟩ := Array.getElem?_eq_some_iff.1 hh; exact h⟩

theorem own_rd {k : IntKind} {zs : List Int} (h : w.ownsRow base e 1 (.slice ao n cap) n (zs.map (Value.int k))) : Rd k w ao n zs := by
  have hl : zs.length = n := by have := h.1; simpa using this
  refine ⟨hl, fun i hi => ?_⟩
  obtain ⟨g, rfl, _, _⟩ := own_at h (by omega)
  refine ⟨g, 0, rfl, ?_⟩
  rw [Nat.zero_add, h.cellAt i (by omega)]
  simp [show i < zs.length by omega]

theorem own_drewN {v : Value} {size : Nat} {xs : List Value} (h : w.ownsRow base e size v n xs) (q : Nat) : (w.drewN q).ownsRow base e size v n xs := h

theorem own_base {v : Value} {size base' : Nat} {xs : List Value} (h : w.ownsRow base e size v n xs) (hb : base' ≤ base) : w.ownsRow base' e size v n xs :=
  by
  rcases h with ⟨h0, h1 | ⟨g, cap, cur, h1, h2, r⟩⟩
  · exact ⟨h0, .inl h1⟩
  · exact ⟨h0, .inr ⟨g, cap, cur, h1, by omega, r⟩⟩

/-- What is owned stays owned when only new rows come. -/
theorem own_grown {w' : World} {v : Value} {size : Nat} {xs : List Value} (h : w.ownsRow base e size v n xs) (hg : w.grownBy w' none) : w'.ownsRow base e size v n xs :=
  h.kept (grown_any hg (row := none)) (by cases hv : v.ownBlock <;> simp)

/-- What is owned from a higher number on stays owned when a lower row is written. -/
theorem own_above {w' : World} {v u : Value} {size : Nat} {xs : List Value} (h : w.ownsRow base e size v n xs) (hg : w.grownBy w' u.ownBlock)
    (hlt : ∀ g, u.ownBlock = some g → g < base) : w'.ownsRow base e size v n xs :=
  h.kept hg (by
    cases hv : v.ownBlock with
    | none => exact .inl rfl
    | some g => refine .inr (fun e => ?_); have := hlt g e.symm; have := (h.lt g hv).1; omega)

/-- What is owned by rows below a number stays owned when a row from that number on is written. -/
theorem own_beneath {w' : World} {v : Value} {size : Nat} {row : Option Nat} {xs : List Value} (h : w.ownsRow base e size v n xs) (hg : w.grownBy w' row)
    (hlt : ∀ g g', v.ownBlock = some g → row = some g' → g ≠ g') : w'.ownsRow base e size v n xs :=
  h.kept hg (by
    cases hv : v.ownBlock with
    | none => exact .inl rfl
    | some g =>
      refine .inr (fun e => ?_)
      exact hlt g g hv e.symm rfl)
end

/-- What a copy holds behind k rounds. -/
def part (K : IntKind) (zs : List Int) (k : Nat) : List Value := (zs.take k).map (Value.int K) ++ List.replicate (zs.length - k) (.int K 0)

theorem part_zero (K : IntKind) (zs : List Int) : part K zs 0 = List.replicate zs.length (.int K 0) := by simp [part]
theorem part_all (K : IntKind) (zs : List Int) : part K zs zs.length = zs.map (Value.int K) := by simp [part]
theorem part_len (K : IntKind) (zs : List Int) (k : Nat) (h : k ≤ zs.length) : (part K zs k).length = zs.length := by simp [part]; omega
theorem part_get (K : IntKind) (zs : List Int) (k j : Nat) (hk : k ≤ zs.length) (hj : j < zs.length) : (part K zs k)[j]? = some (.int K (if j < k then zs.getD j 0 else 0)) := by
  unfold part
  by_cases h : j < k
  · rw [List.getElem?_append_left (by simp; omega)]
    simp [h, hj]
  · rw [List.getElem?_append_right (by simp; omega), List.getElem?_replicate, if_pos (by simp; omega), if_neg h]
theorem part_set (K : IntKind) (zs : List Int) (k : Nat) (h : k < zs.length) : (part K zs k).set k (.int K (zs.getD k 0)) = part K zs (k + 1) := by
  apply List.ext_getElem?
  intro j
  by_cases hj : j < zs.length
  · rw [List.getElem?_set, part_get K zs (k + 1) j (by omega) hj, part_get K zs k j (by omega) hj, part_len K zs k (by omega)]
    by_cases e : k = j
    · subst e; simp [h]
    · rw [if_neg e]
      by_cases h1 : j < k
      · rw [if_pos h1, if_pos (by omega)]
      · rw [if_neg h1, if_neg (by omega)]
  · rw [List.getElem?_eq_none (by rw [List.length_set, part_len K zs k (by omega)]; omega), List.getElem?_eq_none (by rw [part_len K zs (k + 1) (by omega)]; omega)]

/-- The marks that are laid over a row, from k on, each as its kind holds it. -/
def marks (K : IntKind) (k : Int) (n : Nat) : List Int := (List.range n).map (fun i : Nat => K.wrap (k + (i : Int)))
theorem marks_len (K : IntKind) (k : Int) (n : Nat) : (marks K k n).length = n := by simp [marks]
theorem marks_get (K : IntKind) (k : Int) (n i : Nat) (h : i < n) : (marks K k n).getD i 0 = K.wrap (k + i) := by simp [marks, h]

/-- A row behind j rounds of marking. -/
def over (K : IntKind) (k : Int) (xs : List Value) (j : Nat) : List Value := (marks K k j).map (Value.int K) ++ xs.drop j
theorem over_zero (K : IntKind) (k : Int) (xs : List Value) : over K k xs 0 = xs := by simp [over, marks]
theorem over_all (K : IntKind) (k : Int) (xs : List Value) : over K k xs xs.length = (marks K k xs.length).map (Value.int K) := by simp [over]
theorem over_set (K : IntKind) (k : Int) (xs : List Value) (j : Nat) (h : j < xs.length) : (over K k xs j).set j (.int K (K.wrap (k + j))) = over K k xs (j + 1) := by
  unfold over
  rw [List.set_append_right _ _ (by simp [marks_len])]
  have e : marks K k (j + 1) = marks K k j ++ [K.wrap (k + j)] := by simp [marks, List.range_succ]
  rw [e, List.map_append, List.append_assoc]
  congr 1
  rw [List.length_map, marks_len, Nat.sub_self, List.drop_eq_getElem_cons h]
  rfl

theorem grown_set (w : World) (g j : Nat) (u : Value) : w.grownBy (w.setCell ⟨g, j, none⟩ u) (some g) :=
  ⟨rfl, rfl, rfl, by simp, fun k _ hk => heap_setCell_other w ⟨g, j, none⟩ k u (fun e => hk (by simp [e]))⟩

theorem grown_set' (w : World) (q g j : Nat) (u : Value) : w.grownBy ((w.drewN q).setCell ⟨g, j, none⟩ u) (some g) := grown_trans (grown_drewN (World.grownBy.refl _ _) q) (grown_set _ _ _ _)

theorem drop_at (zs : List Int) (k : Nat) (h : k < zs.length) : zs.drop k = zs.getD k 0 :: zs.drop (k + 1) := by
  rw [List.drop_eq_getElem_cons h]; simp [h]

theorem and1_i64 (x : Int) (h0 : 0 ≤ x) (h1 : x < 9223372036854775808) : bits BinOp.and IntKind.i64 x 1 = x % 2 := by
  have e63 : (2 : Int) ^ 63 = 9223372036854775808 := by decide
  have h := bits_mask .i64 63 (by decide) (fun n h0 h1 => by rw [e63] at h1; rw [IntKind.wrap_i64]; omega) 1 (by decide) x h0 (by rw [e63]; omega)
  have e : ((2 : Int) ^ 1 - 1) = 1 := by decide
  rw [e] at h
  rw [h]
  rfl
theorem and1_u8 (x : Int) (h0 : 0 ≤ x) (h1 : x < 256) : bits BinOp.and IntKind.u8 x 1 = x % 2 := by
  have e8 : (2 : Int) ^ 8 = 256 := by decide
  have h := bits_mask .u8 8 (by decide) (fun n h0 h1 => by rw [e8] at h1; rw [IntKind.wrap_u8]; omega) 1 (by decide) x h0 (by rw [e8]; omega)
  have e : ((2 : Int) ^ 1 - 1) = 1 := by decide
  rw [e] at h
  rw [h]
  rfl
theorem shr_bound (x : Int) (h0 : 0 ≤ x) (h1 : x ≤ 255) (s : Nat) : 0 ≤ x / 2 ^ s ∧ x / 2 ^ s < 256 := by
  have hp : (0 : Int) < 2 ^ s := Int.pow_pos (by decide)
  have h2 := Int.ediv_nonneg h0 (Int.le_of_lt hp)
  have h3 := Int.ediv_le_self (2 ^ s) h0
  omega
theorem ret_int {k : IntKind} {a b : Int} (h : a = b) : Ending.returned (.int k a) = .returned (.int k b) := by rw [h]

theorem shr_small (x : Int) (h0 : 0 ≤ x) (h1 : x < 65536) (s : Nat) : 0 ≤ x / 2 ^ s ∧ x / 2 ^ s < 65536 := by
  have hp : (0 : Int) < 2 ^ s := Int.pow_pos (by decide)
  have h2 := Int.ediv_nonneg h0 (Int.le_of_lt hp)
  have h3 := Int.ediv_le_self (2 ^ s) h0
  omega

theorem pow_small (x : Int) (h1 : x ≤ 16) : (1 : Int) ≤ 2 ^ x.toNat ∧ (2 : Int) ^ x.toNat ≤ 65536 := by
  have h : x.toNat ≤ 16 := by omega
  generalize x.toNat = m at h
  have h3 : (2 : Nat) ^ m ≤ 2 ^ 16 := Nat.pow_le_pow_right (by omega) h
  have h4 : 1 ≤ (2 : Nat) ^ m := Nat.one_le_two_pow
  have e : ((2 : Nat) ^ m : Int) = (2 : Int) ^ m := by norm_cast
  omega
theorem shl_sub (x : Int) (h1 : x ≤ 16) : wrap64 (wrap64 (2 ^ x.toNat) - 1) = 2 ^ x.toNat - 1 := by
  have h := pow_small x h1
  rw [IntWalk.wrap64_in (2 ^ x.toNat) (by omega), IntWalk.wrap64_in (2 ^ x.toNat - 1) (by omega)]

end Go.Proofs.Ytdhgfbdanijgaaa

namespace Go.Proofs.Ytdhgfbdanijgaaa
open Go.RowKit

/-- What is read through a slice of fields. -/
def RdF (w : World) (ao : Option Addr) (n : Nat) (fs : List (Int × Int)) : Prop :=
  fs.length = n ∧ ∀ i, i < n → ∃ b off, ao = some ⟨b, off, none⟩ ∧ w.cell? ⟨b, off + i * 2, none⟩ = some (.int .i64 (fs.getD i (0, 0)).1) ∧ w.cell? ⟨b, off + i * 2 + 1, none⟩ = some (.int .i64 (fs.getD i (0, 0)).2)

theorem RdF.grown {w w' : World} {ao : Option Addr} {n : Nat} {fs : List (Int × Int)} (h : RdF w ao n fs) (hg : w.grownBy w' none) : RdF w' ao n fs :=
  ⟨h.1, fun i hi => by obtain ⟨b, off, e, h1, h2⟩ := h.2 i hi; exact ⟨b, off, e, hg.cell h1 (by simp), hg.cell h2 (by simp)⟩⟩

/-- A slice of fields that came in, as the row's step hands it over. -/
theorem rdF_of_row {w : World} {x : Addr} {n : Nat} {V0 V1 : Nat → Value} (h : ∀ i, i < n → w.cell? (x.add (i * 2)) = some (V0 i) ∧ w.cell? (x.add (i * 2 + 1)) = some (V1 i) ∧ (∃ a, V0 i = .int .i64 a) ∧ ∃ b, V1 i = .int .i64 b) :
    RdF w (some x) n ((List.range n).map (fun i => (intOf (V0 i), intOf (V1 i)))) := by
  refine ⟨by simp, fun i hi => ?_⟩
  obtain ⟨b, off, spot⟩ := x
  have hspot : spot = none := by simpa [Addr.add] using World.cell?_spot (h 0 (by omega)).1
  subst hspot
  obtain ⟨h1, h2, ⟨a1, e1⟩, ⟨a2, e2⟩⟩ := h i hi
  rw [Addr.add_lit] at h1 h2
  refine ⟨b, off, rfl, ?_, ?_⟩
  · rw [h1, e1]; simp [hi, e1, intOf]
  · rw [Nat.add_assoc, h2, e2]; simp [hi, e2, intOf]

/-- The cells of a row of fields. -/
def flat (fs : List (Int × Int)) : List Value := fs.flatMap (fun f => [.int .i64 f.1, .int .i64 f.2])
theorem flat_cons (f : Int × Int) (fs : List (Int × Int)) : flat (f :: fs) = .int .i64 f.1 :: .int .i64 f.2 :: flat fs := by simp [flat]
theorem flat_append (fs gs : List (Int × Int)) : flat (fs ++ gs) = flat fs ++ flat gs := by simp [flat]
theorem flat_len (fs : List (Int × Int)) : (flat fs).length = fs.length * 2 := by
  induction fs with
  | nil => rfl
  | cons f r ih => rw [flat_cons]; simp [ih]; omega
theorem flat_get (fs : List (Int × Int)) : ∀ i, i < fs.length → (flat fs)[i * 2]? = some (.int .i64 (fs.getD i (0, 0)).1) ∧ (flat fs)[i * 2 + 1]? = some (.int .i64 (fs.getD i (0, 0)).2) := by
  induction fs with
  | nil => intro i hi; simp at hi
  | cons f r ih =>
    intro i hi
    rw [flat_cons]
    cases i with
    | zero => simp
    | succ j =>
      have h := ih j (by simpa using hi)
      have e1 : (j + 1) * 2 = j * 2 + 1 + 1 := by omega
      rw [e1]
      simpa using h

/-- What a copy of fields holds behind k rounds. -/
def partF (fs : List (Int × Int)) (k : Nat) : List Value := flat (fs.take k) ++ List.replicate ((fs.length - k) * 2) (.int .i64 0)
theorem partF_all (fs : List (Int × Int)) : partF fs fs.length = flat fs := by simp [partF]
theorem partF_zero (fs : List (Int × Int)) : partF fs 0 = List.replicate (fs.length * 2) (.int .i64 0) := by simp [partF, flat]
theorem partF_set (fs : List (Int × Int)) (k : Nat) (h : k < fs.length) : ((partF fs k).set (k * 2) (.int .i64 (fs.getD k (0, 0)).1)).set (k * 2 + 1) (.int .i64 (fs.getD k (0, 0)).2) = partF fs (k + 1) := by
  have hl : (flat (fs.take k)).length = k * 2 := by rw [flat_len, List.length_take]; omega
  unfold partF
  rw [List.take_succ_eq_append_getElem h, flat_append, List.append_assoc]
  rw [List.set_append_right _ _ (by omega), List.set_append_right _ _ (by omega), hl]
  congr 1
  have e : (fs.length - k) * 2 = (fs.length - (k + 1)) * 2 + 1 + 1 := by omega
  rw [e, List.replicate_succ, List.replicate_succ]
  have e2 : k * 2 + 1 - k * 2 = 1 := by omega
  rw [Nat.sub_self, e2]
  simp [flat, h]

theorem own_rdF {w : World} {base : Nat} {e : TypeId} {ao : Option Addr} {n cap : Nat} {fs : List (Int × Int)} (h : w.ownsRow base e 2 (.slice ao n cap) n (flat fs)) : RdF w ao n fs := by
  have hl : fs.length = n := by have := h.1; rw [flat_len] at this; omega
  refine ⟨hl, fun i hi => ?_⟩
  obtain ⟨g, rfl, _, _⟩ := own_at h (by omega)
  have hg := flat_get fs i (by omega)
  refine ⟨g, 0, rfl, ?_, ?_⟩
  · rw [Nat.zero_add, h.cellAt _ (by omega)]; exact hg.1
  · rw [Nat.zero_add, h.cellAt _ (by omega)]; exact hg.2

theorem madeFields (n : Nat) : (madeCells #[Value.int .i64 0, Value.int .i64 0] (n * 2)).toList = List.replicate (n * 2) (.int .i64 0) := by
  apply List.ext_getElem?
  intro j
  by_cases hj : j < n * 2
  · have : j % 2 = 0 ∨ j % 2 = 1 := by omega
    rcases this with h | h <;> simp [madeCells, hj, h]
  · simp [madeCells, hj]

theorem Try.info27 : (Try.prog.info? 27).map (fun i => (i.zero, i.size, i.bytes)) = some (some (.agg #[.int .i64 0, .int .i64 0]), 2, 16) := by kernel_rfl

end Go.Proofs.Ytdhgfbdanijgaaa

namespace Go.Proofs.Ytdhgfbdanijgaaa
open Go.RowKit

/-- A field that is well. -/
def fieldB (f : Int × Int) : Bool := decide ((0 ≤ f.1 ∧ f.1 ≤ 16) ∧ (0 ≤ f.2 ∧ f.2 < 2 ^ f.1.toNat))
/-- All lengths together. -/
def lens (fs : List (Int × Int)) : Int := (fs.map (·.1)).sum
/-- What FieldsOk answers. -/
def okF (fs : List (Int × Int)) : Bool := fs.all fieldB && decide (lens fs ≤ 480000)

theorem lens_append (a b : List (Int × Int)) : lens (a ++ b) = lens a + lens b := by simp [lens]
theorem take_next_fieldsok (fs : List (Int × Int)) (k : Nat) (h : k < fs.length) : fs.take (k + 1) = fs.take k ++ [fs.getD k (0, 0)] := by
  rw [List.take_succ_eq_append_getElem h]
  have e : fs.getD k (0, 0) = fs[k] := by simp [h]
  rw [e]
theorem lens_take (fs : List (Int × Int)) (k : Nat) (h : k < fs.length) : lens (fs.take (k + 1)) = lens (fs.take k) + (fs.getD k (0, 0)).1 := by
  rw [take_next_fieldsok fs k h, lens_append]; simp only [lens, List.map_cons, List.map_nil, List.sum_cons, List.sum_nil, Int.add_zero]
theorem all_take (fs : List (Int × Int)) (k : Nat) (h : k < fs.length) : (fs.take (k + 1)).all fieldB = ((fs.take k).all fieldB && fieldB (fs.getD k (0, 0))) := by
  rw [take_next_fieldsok fs k h, List.all_append]; simp only [List.all_cons, List.all_nil, Bool.and_true]
theorem lens_pos (fs : List (Int × Int)) (h : fs.all fieldB = true) : 0 ≤ lens fs := by
  induction fs with
  | nil => simp [lens]
  | cons f r ih =>
    simp only [List.all_cons, Bool.and_eq_true] at h
    have h1 := ih h.2
    have h2 := of_decide_eq_true h.1
    have e : lens (f :: r) = f.1 + lens r := by simp [lens]
    omega
theorem okF_bad (fs : List (Int × Int)) (k : Nat) (h : k < fs.length) (hb : fieldB (fs.getD k (0, 0)) = false) : okF fs = false := by
  have hm : fs.getD k (0, 0) ∈ fs := by simp [h]
  have : fs.all fieldB = false := by
    cases h2 : fs.all fieldB with
    | false => rfl
    | true => rw [List.all_eq_true.1 h2 _ hm] at hb; exact hb
  simp only [okF, this, Bool.false_and]
theorem okF_much (fs : List (Int × Int)) (k : Nat) (hs : 480000 < lens (fs.take k)) : okF fs = false := by
  cases h : okF fs with
  | false => rfl
  | true =>
    exfalso
    simp only [okF, Bool.and_eq_true, decide_eq_true_eq] at h
    have hd : (fs.drop k).all fieldB = true := by
      rw [List.all_eq_true] at h ⊢
      intro x hx
      exact h.1 x (List.mem_of_mem_drop hx)
    have h2 := lens_pos _ hd
    have e : lens fs = lens (fs.take k) + lens (fs.drop k) := by
      have h3 := lens_append (fs.take k) (fs.drop k)
      rwa [List.take_append_drop] at h3
    omega

theorem implLenOk (x : Int) (t : Bool) (ht : Hid (decide (0 ≤ x ∧ x ≤ 16) = t)) (w : World) :
    Calls Try.prog 22 #[.int .i64 x] w fun e w' => e = .returned (.bool t) ∧ w' = w := by
  by_cases h1 : 0 ≤ x
  · by_cases h2 : x ≤ 16
    · have e : t = true := by rw [← unhide ht]; simp [h1, h2]
      subst e
      go_enter Try.func22, Try.ntmps22
      go_wp2
      go_ret
      exact ⟨by simp, rfl⟩
    · have e : t = false := by rw [← unhide ht]; simp [h2]
      subst e
      go_enter Try.func22, Try.ntmps22
      go_wp2
      go_ret
      exact ⟨by simp, rfl⟩
  · have e : t = false := by rw [← unhide ht]; simp [h1]
    subst e
    have hd : decide (0 ≤ x) = false := by simpa using h1
    go_enter Try.func22, Try.ntmps22
    go_wp2
    go_ret
    exact ⟨rfl, rfl⟩

set_option maxHeartbeats 800000 in
theorem implFieldOk (x y : Int) (t : Bool) (ht : Hid (fieldB (x, y) = t)) (w : World) :
    Calls Try.prog 12 #[.agg #[.int .i64 x, .int .i64 y]] w fun e w' => e = .returned (.bool t) ∧ w.grownBy w' none := by
  by_cases hx : 0 ≤ x ∧ x ≤ 16
  · have hb1 : Hid (decide (0 ≤ x ∧ x ≤ 16) = true) := decide_eq_true hx
    obtain ⟨hx1, hx2⟩ := hx
    by_cases hy : 0 ≤ y
    · go_enter Try.func12, Try.ntmps12
      go_wp2_with fail
      refine (implLenOk x true hb1 _).mono ?_
      rintro e w1 ⟨rfl, rfl⟩
      go_wp2
      go_ret
      refine ⟨ret_bool (a := decide (y < wrap64 (2 ^ x.toNat))) ?_, grown_alloc (World.grownBy.refl _ _) _⟩
      have h := pow_small x hx2
      rw [IntWalk.wrap64_in (2 ^ x.toNat) (by omega), ← unhide ht]
      simp [fieldB, hx1, hx2, hy]
    · have e : t = false := by rw [← unhide ht]; exact decide_eq_false (fun h => hy h.2.1)
      subst e
      have hd : decide (0 ≤ y) = false := by simpa using hy
      go_enter Try.func12, Try.ntmps12
      go_wp2_with fail
      refine (implLenOk x true hb1 _).mono ?_
      rintro e w1 ⟨rfl, rfl⟩
      go_wp2
      go_ret
      exact ⟨rfl, grown_alloc (World.grownBy.refl _ _) _⟩
  · have e : t = false := by rw [← unhide ht]; exact decide_eq_false (fun h => hx h.1)
    subst e
    have hb1 : Hid (decide (0 ≤ x ∧ x ≤ 16) = false) := decide_eq_false hx
    clear hx
    go_enter Try.func12, Try.ntmps12
    go_wp2_with fail
    refine (implLenOk x false hb1 _).mono ?_
    rintro e w1 ⟨rfl, rfl⟩
    go_wp2
    go_ret
    exact ⟨rfl, grown_alloc (World.grownBy.refl _ _) _⟩

set_option maxHeartbeats 800000 in
theorem implFieldsOk (ao : Option Addr) (n cap : Nat) (fs : List (Int × Int)) (w : World) (hr : RdF w ao n fs) (hn : n ≤ 4194304) :
    Calls Try.prog 6 #[.slice ao n cap] w fun e w' => e = .returned (.bool (okF fs)) ∧ w.grownBy w' none := by
  obtain ⟨hl, hc⟩ := hr
  go_enter Try.func6, Try.ntmps6
  go_wp2
  go_loopw [3, 8] (fun s i wr => ∃ k : Nat, k ≤ n ∧ i = .int .i64 k ∧ s = .int .i64 (lens (fs.take k)) ∧ (fs.take k).all fieldB = true ∧ 0 ≤ lens (fs.take k) ∧ lens (fs.take k) ≤ 16 * k ∧ w.grownBy wr none) (fun _ i _ => n - (intOf i).toNat)
  case atStart => exact ⟨0, Nat.zero_le _, rfl, rfl, rfl, by simp [lens], by simp [lens], World.grownBy.refl _ _⟩
  case round =>
    obtain ⟨k, hk, rfl, rfl, hall, h0, h1, hgk⟩ := hrel
    by_cases hlt : k < n
    · obtain ⟨b, off, rfl, hc1, hc2⟩ := hc k hlt
      have hca := hgk.cell hc1 (by simp)
      have hcb := hgk.cell hc2 (by simp)
      have HL := hide (lens_take fs k (by omega))
      have HA := hide (all_take fs k (by omega))
      have HB := hide (okF_bad fs k (by omega))
      have HAL := hide hall
      clear hc hc1 hc2 hall
      generalize fs.getD k (0, 0) = f at hca hcb HL HA HB
      obtain ⟨x, y⟩ := f
      generalize lens (fs.take k) = s0 at *
      cases hf : fieldB (x, y) with
      | true =>
        have HF := hide hf
        have hx := of_decide_eq_true hf
        obtain ⟨⟨hx1, hx2⟩, _⟩ := hx
        have hx1' : 0 ≤ x := hx1
        have hx2' : x ≤ 16 := hx2
        clear hf hx1 hx2
        go_wp2_with fail
        refine (implFieldOk x y true HF _).mono ?_
        rintro e w2 ⟨rfl, g2⟩
        have hcx := (World.grownBy.cell g2 (a := ⟨wr.heap.size, 0, none⟩) (v := .int .i64 x) (by simp) (by simp))
        go_wp2
        go_roundw
        case rel => exact ⟨k + 1, by omega, by go_num, by rw [unhide HL], by rw [unhide HA, unhide HAL, unhide HF]; rfl, by rw [unhide HL]; show 0 ≤ s0 + x; omega, by rw [unhide HL]; show s0 + x ≤ 16 * ((k + 1 : Nat) : Int); omega, grown_trans (grown_alloc hgk _) g2⟩
        case measure => simp [intOf]; omega
      | false =>
        have HF := hide hf
        clear hf
        go_wp2_with fail
        refine (implFieldOk x y false HF _).mono ?_
        rintro e w2 ⟨rfl, g2⟩
        go_wp2
        go_ret
        exact ⟨by rw [unhide HB (unhide HF)]; rfl, grown_trans (grown_alloc hgk _) g2⟩
    · have hkn : k = n := by omega
      subst hkn
      rw [List.take_of_length_le (by omega)] at hall h1 h0
      have e : fs.take k = fs := List.take_of_length_le (by omega)
      have H : Hid (okF fs = decide (lens fs ≤ 480000)) := by simp only [Hid, okF, hall, Bool.true_and]
      rw [e]
      clear e hc
      go_wp2
      go_ret
      exact ⟨by rw [unhide H]; rfl, hgk⟩

end Go.Proofs.Ytdhgfbdanijgaaa

namespace Go.Proofs.Ytdhgfbdanijgaaa
theorem Try.info3 : (Try.prog.info? 3).map (fun i => (i.zero, i.size, i.bytes)) = some (some (.int .i64 0), 1, 8) := by kernel_rfl
end Go.Proofs.Ytdhgfbdanijgaaa

namespace Go.Proofs.Ytdhgfbdanijgaaa
theorem Try.info5 : (Try.prog.info? 5).map (fun i => (i.zero, i.size, i.bytes)) = some (some (.int .u8 0), 1, 1) := by kernel_rfl
end Go.Proofs.Ytdhgfbdanijgaaa

namespace Go.Proofs.Ytdhgfbdanijgaaa
open Go.RowKit

/-- The cells of n structs of k cells each: cell j of struct i is f i j. -/
def rowsK (n k : Nat) (f : Nat → Nat → Value) : List Value := (List.range (n * k)).map (fun c => f (c / k) (c % k))
theorem rowsK_len (n k : Nat) (f : Nat → Nat → Value) : (rowsK n k f).length = n * k := by simp [rowsK]
theorem cell_place {k i j : Nat} (hj : j < k) : (i * k + j) / k = i ∧ (i * k + j) % k = j := by
  constructor
  · rw [Nat.mul_comm, Nat.mul_add_div (by omega), Nat.div_eq_of_lt hj, Nat.add_zero]
  · rw [Nat.mul_comm, Nat.mul_add_mod, Nat.mod_eq_of_lt hj]
theorem place_lt {n k i j : Nat} (hi : i < n) (hj : j < k) : i * k + j < n * k := by
  have h : (i + 1) * k ≤ n * k := Nat.mul_le_mul_right k hi
  rw [Nat.add_mul, Nat.one_mul] at h
  omega
theorem rowsK_get (n k : Nat) (f : Nat → Nat → Value) (i j : Nat) (hi : i < n) (hj : j < k) : (rowsK n k f)[i * k + j]? = some (f i j) := by
  unfold rowsK
  rw [List.getElem?_map, List.getElem?_range (place_lt hi hj), Option.map_some, (cell_place hj).1, (cell_place hj).2]
theorem rowsK_congr {n k : Nat} {f g : Nat → Nat → Value} (h : ∀ i j, i < n → j < k → f i j = g i j) : rowsK n k f = rowsK n k g := by
  unfold rowsK
  apply List.map_congr_left
  intro c hc
  have hc' := List.mem_range.1 hc
  have hk : 0 < k := by
    rcases Nat.eq_zero_or_pos k with e | e
    · subst e; simp at hc'
    · exact e
  exact h _ _ (Nat.div_lt_of_lt_mul (by rw [Nat.mul_comm]; exact hc')) (Nat.mod_lt _ hk)
/-- One cell changed. -/
theorem rowsK_set (n k : Nat) (f : Nat → Nat → Value) (i j : Nat) (u : Value) (hj : j < k) : (rowsK n k f).set (i * k + j) u = rowsK n k (fun a b => if a = i ∧ b = j then u else f a b) := by
  apply List.ext_getElem?
  intro c
  rw [List.getElem?_set]
  by_cases hc : c < n * k
  · have hk : 0 < k := by omega
    have hd : c = (c / k) * k + c % k := by have := Nat.div_add_mod c k; rw [Nat.mul_comm] at this; omega
    have hi' : c / k < n := Nat.div_lt_of_lt_mul (by rw [Nat.mul_comm]; exact hc)
    have hm : c % k < k := Nat.mod_lt _ hk
    have e1 : (rowsK n k f)[c]? = some (f (c / k) (c % k)) := by
      have := rowsK_get n k f (c / k) (c % k) hi' hm
      rwa [← hd] at this
    have e2 : (rowsK n k (fun a b => if a = i ∧ b = j then u else f a b))[c]? = some (if c / k = i ∧ c % k = j then u else f (c / k) (c % k)) := by
      have := rowsK_get n k (fun a b => if a = i ∧ b = j then u else f a b) (c / k) (c % k) hi' hm
      rwa [← hd] at this
    rw [e1, e2, rowsK_len]
    by_cases h : i * k + j = c
    · subst h
      rw [if_pos rfl, if_pos hc, if_pos (cell_place hj)]
    · rw [if_neg h, if_neg (fun e => h (by rw [← e.1, ← e.2]; exact hd.symm))]
  · rw [List.getElem?_eq_none (by rw [rowsK_len]; omega), List.getElem?_eq_none (by rw [rowsK_len]; omega), rowsK_len]
    split
    · rw [if_neg (by omega)]
    · rfl
/-- What is made anew. -/
theorem madeK (z : Array Value) (n : Nat) (hz : 0 < z.size) : (madeCells z (n * z.size)).toList = rowsK n z.size (fun _ b => z.getD b default) := by
  apply List.ext_getElem?
  intro c
  by_cases hc : c < n * z.size
  · have hm : c % z.size < z.size := Nat.mod_lt _ hz
    simp [madeCells, rowsK, hc, hm]
  · simp [madeCells, rowsK, hc]

theorem own_sameAt {w w' : World} {base : Nat} {e : TypeId} {size : Nat} {v : Value} {n : Nat} {xs : List Value} (h : w.ownsRow base e size v n xs) (hs : ∀ g, v.ownBlock = some g → w'.heap[g]? = w.heap[g]?) : w'.ownsRow base e size v n xs := by
  obtain ⟨h1, h2⟩ := h
  refine ⟨h1, ?_⟩
  rcases h2 with h2 | ⟨g, cap, cur, hv, hg, hh, r⟩
  · exact .inl h2
  · exact .inr ⟨g, cap, cur, hv, hg, by rw [hs g (by rw [hv]; rfl)]; exact hh, r⟩

/-- A world that is as it was outside of some rows, told by their numbers. -/
structure Kp (lo hi : Nat) (w w' : World) : Prop where
  os : w'.os = w.os
  tape : w'.tape = w.tape
  output : w'.output = w.output
  size : w.heap.size ≤ w'.heap.size
  block : ∀ k, k < w.heap.size → (k < lo ∨ hi ≤ k) → w'.heap[k]? = w.heap[k]?
theorem Kp.refl (lo hi : Nat) (w : World) : Kp lo hi w w := ⟨rfl, rfl, rfl, Nat.le_refl _, fun _ _ _ => rfl⟩
theorem Kp.trans {lo hi : Nat} {a b c : World} (h : Kp lo hi a b) (g : Kp lo hi b c) : Kp lo hi a c :=
  ⟨g.os.trans h.os, g.tape.trans h.tape, g.output.trans h.output, Nat.le_trans h.size g.size, fun k hk hr => (g.block k (Nat.lt_of_lt_of_le hk h.size) hr).trans (h.block k hk hr)⟩
theorem Kp.of {lo hi : Nat} {a b : World} {row : Option Nat} (h : a.grownBy b row) (hr : ∀ g, row = some g → lo ≤ g ∧ g < hi) : Kp lo hi a b :=
  ⟨h.os, h.tape, h.output, h.size, fun k hk hk' => h.block k hk (fun e => by have := hr k e.symm; omega)⟩
theorem Kp.new {lo hi : Nat} {a b c : World} (h : a.grownBy b none) (g : Kp lo hi b c) (hlo : a.heap.size ≤ lo) : a.grownBy c none :=
  ⟨g.os.trans h.os, g.tape.trans h.tape, g.output.trans h.output, Nat.le_trans h.size g.size, fun k hk _ => (g.block k (Nat.lt_of_lt_of_le hk h.size) (.inl (by omega))).trans (h.block k hk (by simp))⟩

end Go.Proofs.Ytdhgfbdanijgaaa

namespace Go.Proofs.Ytdhgfbdanijgaaa
open Go.RowKit

/-- What is read through a slice of segments: marks, and the bytes behind each. -/
def RdS (w : World) (ao : Option Addr) (n : Nat) (ss : List (Int × List Int)) : Prop :=
  ss.length = n ∧ ∀ i, i < n → ∃ b off dd dc, ao = some ⟨b, off, none⟩ ∧ w.cell? ⟨b, off + i * 2, none⟩ = some (.int .i64 (ss.getD i (0, [])).1) ∧
    w.cell? ⟨b, off + i * 2 + 1, none⟩ = some (.slice dd (ss.getD i (0, [])).2.length dc) ∧ Rd .u8 w dd (ss.getD i (0, [])).2.length (ss.getD i (0, [])).2 ∧ (dd = none → dc = 0)

theorem RdS.grown {w w' : World} {ao : Option Addr} {n : Nat} {ss : List (Int × List Int)} (h : RdS w ao n ss) (hg : w.grownBy w' none) : RdS w' ao n ss :=
  ⟨h.1, fun i hi => by
    obtain ⟨b, off, dd, dc, e, h1, h2, h3, h4⟩ := h.2 i hi
    exact ⟨b, off, dd, dc, e, hg.cell h1 (by simp), hg.cell h2 (by simp), h3.grown hg, h4⟩⟩

/-- The cells of a row of segments whose data are the values d. -/
def segCells (ss : List (Int × List Int)) (d : Nat → Value) : Nat → Nat → Value := fun i j => if j = 0 then .int .i64 (ss.getD i (0, [])).1 else d i

/-- The data of the first k segments: each owned from lo on, below hi, no two in one row. -/
def Dat (w : World) (lo hi : Nat) (ds : Nat → List Int) (d : Nat → Value) (k : Nat) : Prop :=
  ∀ i, i < k → w.ownsRow lo 5 1 (d i) (ds i).length ((ds i).map (Value.int .u8)) ∧ ∀ g, (d i).ownBlock = some g → g < hi ∧ ∀ j, j < i → (d j).ownBlock ≠ some g

/-- Segments that a call owns, wholly in rows from lo on and below hi. -/
def OwnS (w : World) (lo hi : Nat) (v : Value) (ss : List (Int × List Int)) : Prop :=
  ∃ d : Nat → Value, w.ownsRow lo 31 2 v ss.length (rowsK ss.length 2 (segCells ss d)) ∧ (∀ g, v.ownBlock = some g → g < hi) ∧ Dat w lo hi (fun i => (ss.getD i (0, [])).2) d ss.length

theorem Dat.same {w w' : World} {lo hi k : Nat} {ds : Nat → List Int} {d : Nat → Value} (h : Dat w lo hi ds d k) (hs : ∀ g, lo ≤ g → g < hi → w'.heap[g]? = w.heap[g]?) : Dat w' lo hi ds d k :=
  fun i hi' => ⟨own_sameAt (h i hi').1 (fun g e => hs g ((h i hi').1.lt g e).1 ((h i hi').2 g e).1), (h i hi').2⟩
theorem OwnS.same {w w' : World} {lo hi : Nat} {v : Value} {ss : List (Int × List Int)} (h : OwnS w lo hi v ss) (hs : ∀ g, lo ≤ g → g < hi → w'.heap[g]? = w.heap[g]?) : OwnS w' lo hi v ss := by
  obtain ⟨d, h1, h2, h3⟩ := h
  exact ⟨d, own_sameAt h1 (fun g e => hs g (h1.lt g e).1 (h2 g e)), h2, h3.same hs⟩
theorem OwnS.kp {w w' : World} {lo hi lo' hi' : Nat} {v : Value} {ss : List (Int × List Int)} (h : OwnS w lo hi v ss) (hk : Kp lo' hi' w w') (hhi : hi ≤ w.heap.size) (hd : hi ≤ lo' ∨ hi' ≤ lo) : OwnS w' lo hi v ss :=
  h.same (fun g h1 h2 => hk.block g (by omega) (by omega))
theorem OwnS.grown {w w' : World} {lo hi : Nat} {v : Value} {ss : List (Int × List Int)} (h : OwnS w lo hi v ss) (hg : w.grownBy w' none) (hhi : hi ≤ w.heap.size) : OwnS w' lo hi v ss :=
  h.same (fun g _ h2 => hg.block g (by omega) (by simp))
theorem OwnS.form {w : World} {lo hi : Nat} {v : Value} {ss : List (Int × List Int)} (h : OwnS w lo hi v ss) : ∃ ao cap, v = .slice ao ss.length cap := by
  obtain ⟨d, h1, _⟩ := h
  exact own_form h1
theorem OwnS.rd {w : World} {lo hi : Nat} {ao : Option Addr} {n cap : Nat} {ss : List (Int × List Int)} (h : OwnS w lo hi (.slice ao n cap) ss) : RdS w ao n ss := by
  obtain ⟨d, h1, h2, h3⟩ := h
  obtain ⟨_, _, e⟩ := own_form h1
  simp only [Value.slice.injEq] at e
  have hn : n = ss.length := e.2.1
  subst hn
  refine ⟨rfl, fun i hi' => ?_⟩
  obtain ⟨g, rfl, _, _⟩ := own_at h1 (by omega)
  obtain ⟨d1, d2⟩ := h3 i hi'
  obtain ⟨dd, dc, hd⟩ := own_form d1
  refine ⟨g, 0, dd, dc, rfl, ?_, ?_, ?_, ?_⟩
  · rw [Nat.zero_add, h1.cellAt _ (by omega)]
    have := rowsK_get ss.length 2 (segCells ss d) i 0 hi' (by omega)
    rw [Nat.add_zero] at this
    rw [this]; rfl
  · rw [Nat.zero_add, h1.cellAt _ (by omega), rowsK_get ss.length 2 (segCells ss d) i 1 hi' (by omega), ← hd]; rfl
  · rw [hd] at d1; exact own_rd d1
  · intro hn
    rcases d1.2 with ⟨hv, _⟩ | ⟨q, _, _, hv, _⟩
    · rw [hd] at hv; simp at hv; exact hv.2.2
    · rw [hd, hn] at hv; simp at hv

theorem Try.info31 : (Try.prog.info? 31).map (fun i => (i.zero, i.size, i.bytes)) = some (some (.agg #[.int .i64 0, .slice none 0 0]), 2, 32) := by kernel_rfl

/-- One more segment's data. -/
theorem Dat.snoc {w w' : World} {lo hi k base : Nat} {ds : Nat → List Int} {d : Nat → Value} {v : Value} (h : Dat w lo hi ds d k) (hhi : hi ≤ w.heap.size) (hg : w.grownBy w' none) (ho : w'.ownsRow base 5 1 v (ds k).length ((ds k).map (Value.int .u8))) (hb : w.heap.size ≤ base) (hlo : lo ≤ base) :
    Dat w' lo w'.heap.size ds (fun i => if i = k then v else d i) (k + 1) := by
  intro i hi'
  by_cases e : i = k
  · subst e
    simp only [if_true]
    refine ⟨own_base ho hlo, fun g hg' => ⟨(ho.lt g hg').2, fun j hj => ?_⟩⟩
    rw [if_neg (by omega)]
    intro hc
    have h1 := (h j hj).2 g hc
    have h2 := (ho.lt g hg').1
    omega
  · obtain ⟨h1, h2⟩ := h i (by omega)
    simp only [if_neg e]
    refine ⟨own_sameAt h1 (fun g hg' => hg.block g (by have := h2 g hg'; omega) (by simp)), fun g hg' => ⟨by have := (h2 g hg').1; have := hg.size; omega, fun j hj => ?_⟩⟩
    rw [if_neg (by omega)]
    exact (h2 g hg').2 j hj

def zeroSeg (j : Nat) : Value := if j = 0 then .int .i64 0 else .slice none 0 0

/-- The copy's cells behind k rounds. -/
def segPart (ss : List (Int × List Int)) (d : Nat → Value) (k : Nat) : Nat → Nat → Value := fun i j => if i < k then segCells ss d i j else zeroSeg j
theorem segPart_set (ss : List (Int × List Int)) (d : Nat → Value) (n k : Nat) (mk : Int) (v : Value) (hf : (ss.getD k (0, [])).1 = mk) :
    ((rowsK n 2 (segPart ss d k)).set (k * 2) (.int .i64 mk)).set (k * 2 + 1) v = rowsK n 2 (segPart ss (fun i => if i = k then v else d i) (k + 1)) := by
  have h0 := rowsK_set n 2 (segPart ss d k) k 0 (.int .i64 mk) (by omega)
  rw [Nat.add_zero] at h0
  rw [h0, rowsK_set _ _ _ k 1 _ (by omega)]
  apply rowsK_congr
  intro i j _ hj
  have hj2 : j = 0 ∨ j = 1 := by omega
  by_cases e1 : i = k
  · subst e1
    rcases hj2 with rfl | rfl
    · simp only [segPart, segCells, hf]; simp
    · simp [segPart, segCells]
  · by_cases e2 : i < k
    · rcases hj2 with rfl | rfl <;> simp [segPart, segCells, e1, e2, show i < k + 1 by omega]
    · rcases hj2 with rfl | rfl <;> simp [segPart, e1, e2, show ¬ i < k + 1 by omega]

end Go.Proofs.Ytdhgfbdanijgaaa

namespace Go.Proofs.Ytdhgfbdanijgaaa
open Go.RowKit

/-- The kind of a segment: 1 a part, 2 a restart, 3 run data, 0 none. -/
def kindOf (m : Int) : Int := if m = 0 then 3 else if 1 ≤ m ∧ m ≤ 239 then 1 else if 240 ≤ m ∧ m ≤ 247 then 2 else 0
theorem kindOf_cases (m : Int) : kindOf m = 0 ∨ kindOf m = 1 ∨ kindOf m = 2 ∨ kindOf m = 3 := by
  unfold kindOf
  split
  · simp
  · split
    · simp
    · split <;> simp
/-- Whether a kind can come behind another one. -/
def fitsK (was now : Int) : Bool := if now = 1 then true else if now = 2 then decide (was = 3) else if now = 3 then decide (was = 1 ∨ was = 2) else false

theorem kind_bounds (m : Int) : (kindOf m = 1 → 1 ≤ m ∧ m ≤ 239) ∧ (kindOf m = 2 → 240 ≤ m ∧ m ≤ 247) := by
  unfold kindOf
  split
  · simp
  · split
    · rename_i h; simp; omega
    · split
      · rename_i h; simp; omega
      · simp

/-- Whether a segment is well behind a kind. -/
def segOk1 (was : Int) (s : Int × List Int) : Bool := fitsK was (kindOf s.1) && decide (s.2.length ≤ 20000) && !(decide (kindOf s.1 = 2) && decide (0 < s.2.length)) && !(decide (kindOf s.1 = 3) && decide (s.2.length = 0))
def okFrom : Int → List (Int × List Int) → Bool
  | _, [] => true
  | was, s :: r => segOk1 was s && okFrom (kindOf s.1) r
/-- What SegsOk answers. -/
def okS (ss : List (Int × List Int)) : Bool := decide (ss.length ≤ 300) && okFrom 0 ss
/-- The kind of the segment ahead of a place. -/
def wasK (ss : List (Int × List Int)) : Nat → Int
  | 0 => 0
  | k + 1 => kindOf (ss.getD k (0, [])).1
theorem wasK_cases (ss : List (Int × List Int)) (k : Nat) : wasK ss k = 0 ∨ wasK ss k = 1 ∨ wasK ss k = 2 ∨ wasK ss k = 3 := by
  cases k with
  | zero => exact .inl rfl
  | succ k => exact kindOf_cases _
theorem dropS (ss : List (Int × List Int)) (k : Nat) (h : k < ss.length) : ss.drop k = ss.getD k (0, []) :: ss.drop (k + 1) := by
  rw [List.drop_eq_getElem_cons h]; simp [h]
theorem okFrom_step {ss : List (Int × List Int)} {k : Nat} (h : okFrom 0 ss = okFrom (wasK ss k) (ss.drop k)) (hk : k < ss.length) : okFrom 0 ss = (segOk1 (wasK ss k) (ss.getD k (0, [])) && okFrom (wasK ss (k + 1)) (ss.drop (k + 1))) := by
  rw [h, dropS ss k hk, okFrom]; rfl

end Go.Proofs.Ytdhgfbdanijgaaa

namespace Go.Proofs.Ytdhgfbdanijgaaa
open Go.RowKit

/-- The program's own numbers of the kinds: 1 run data, 2 a part, 3 a restart, 4 the end, 0 none. -/
def ikOf (m : Int) : Int := if m = 0 then 1 else if 0 < m ∧ m ≤ 239 then 2 else if 240 ≤ m ∧ m ≤ 247 then 3 else if m = 254 then 4 else 0
def toI (k : Int) : Int := if k = 1 then 2 else if k = 2 then 3 else if k = 3 then 1 else 0
def mayF (kind last : Int) : Bool := if kind = 1 then (decide (last = 2) || decide (last = 3)) else if kind = 3 then decide (last = 1) else decide (kind ≠ 0)
def cntOk (kind : Int) (n : Nat) : Bool := if kind = 1 then (decide (1 ≤ n) && decide (n ≤ 20000)) else if kind = 2 then decide (n ≤ 20000) else if kind = 3 then decide (n = 0) else false
theorem ikOf_cases (m : Int) : ikOf m = 0 ∨ ikOf m = 1 ∨ ikOf m = 2 ∨ ikOf m = 3 ∨ ikOf m = 4 := by
  unfold ikOf; repeat' split
  all_goals simp
theorem ikOf_kind (m : Int) : (kindOf m = 0 ∧ (ikOf m = 0 ∨ ikOf m = 4)) ∨ (kindOf m ≠ 0 ∧ ikOf m = toI (kindOf m)) := by
  unfold ikOf kindOf toI
  by_cases h0 : m = 0
  · simp [h0]
  · by_cases h1 : 1 ≤ m ∧ m ≤ 239
    · have h2 : 0 < m ∧ m ≤ 239 := by omega
      simp [h0, h1, h2]
    · have h2 : ¬ (0 < m ∧ m ≤ 239) := by omega
      by_cases h3 : 240 ≤ m ∧ m ≤ 247
      · simp only [if_neg h0, if_neg h1, if_neg h2, if_pos h3]; decide
      · simp only [if_neg h0, if_neg h1, if_neg h2, if_neg h3]
        left
        refine ⟨trivial, ?_⟩
        split <;> simp
theorem seg_may (was : Int) (hw : was = 0 ∨ was = 1 ∨ was = 2 ∨ was = 3) (s : Int × List Int) : segOk1 was s = (mayF (ikOf s.1) (toI was) && cntOk (ikOf s.1) s.2.length) := by
  have hk := kindOf_cases s.1
  have hi := ikOf_kind s.1
  unfold segOk1
  generalize kindOf s.1 = k at *
  generalize ikOf s.1 = i at *
  generalize s.2.length = n
  rcases hi with ⟨rfl, rfl | rfl⟩ | ⟨h0, rfl⟩
  · simp [fitsK, mayF]
  · simp [fitsK, mayF, cntOk]
  · rcases hk with rfl | rfl | rfl | rfl
    · exact absurd rfl h0
    · simp [fitsK, mayF, cntOk, toI]
    · rcases hw with rfl | rfl | rfl | rfl
      · simp [fitsK, mayF, cntOk, toI]
      · simp [fitsK, mayF, cntOk, toI]
      · simp [fitsK, mayF, cntOk, toI]
      · by_cases e : n = 0
        · simp [fitsK, mayF, cntOk, toI, e]
        · have : 0 < n := by omega
          simp [fitsK, mayF, cntOk, toI, e, this]
    · rcases hw with rfl | rfl | rfl | rfl
      · simp [fitsK, mayF, cntOk, toI]
      · by_cases e : n = 0
        · simp [fitsK, mayF, cntOk, toI, e]
        · have : 1 ≤ n := by omega
          simp [fitsK, mayF, cntOk, toI, e, this]
      · by_cases e : n = 0
        · simp [fitsK, mayF, cntOk, toI, e]
        · have : 1 ≤ n := by omega
          simp [fitsK, mayF, cntOk, toI, e, this]
      · simp [fitsK, mayF, cntOk, toI]

theorem implKind (m k : Int) (w : World) (hk : Hid (ikOf m = k)) : Calls Try.prog 13 #[.int .i64 m] w fun e w' => e = .returned (.int .i64 k) ∧ w = w' := by
  have hkk := unhide hk
  unfold ikOf at hkk
  clear hk
  by_cases h0 : m = 0
  · rw [if_pos h0] at hkk
    subst h0; subst hkk
    go_enter Try.func13, Try.ntmps13
    go_wp2
    go_ret
    exact ⟨rfl, rfl⟩
  · rw [if_neg h0] at hkk
    have hb0 : (m == 0) = false := by simpa using h0
    by_cases h1 : 0 < m ∧ m ≤ 239
    · rw [if_pos h1] at hkk
      subst hkk
      have hb1 : decide (0 < m) = true := decide_eq_true h1.1
      have hb2 : decide (m ≤ 239) = true := decide_eq_true h1.2
      clear h0 h1
      go_enter Try.func13, Try.ntmps13
      go_wp2
      go_ret
      exact ⟨rfl, rfl⟩
    · rw [if_neg h1] at hkk
      by_cases hp : 0 < m
      · have hb1 : decide (0 < m) = true := decide_eq_true hp
        have hb2 : decide (m ≤ 239) = false := decide_eq_false (by omega)
        have hb3 : decide (240 ≤ m) = true := decide_eq_true (by omega)
        by_cases h2 : m ≤ 247
        · rw [if_pos (by omega)] at hkk
          subst hkk
          have hb4 : decide (m ≤ 247) = true := decide_eq_true h2
          clear h0 h1 h2 hp
          go_enter Try.func13, Try.ntmps13
          go_wp2
          go_ret
          exact ⟨rfl, rfl⟩
        · rw [if_neg (by omega)] at hkk
          have hb4 : decide (m ≤ 247) = false := decide_eq_false h2
          by_cases h3 : m = 254
          · rw [if_pos h3] at hkk
            subst h3; subst hkk
            clear hb0 hb1 hb2 hb3 hb4 h0 h1 h2 hp
            go_enter Try.func13, Try.ntmps13
            go_wp2
            go_ret
            exact ⟨rfl, rfl⟩
          · rw [if_neg h3] at hkk
            subst hkk
            have hb5 : (m == 254) = false := by simpa using h3
            clear h0 h1 h2 hp h3
            go_enter Try.func13, Try.ntmps13
            go_wp2
            go_ret
            exact ⟨rfl, rfl⟩
      · have hb1 : decide (0 < m) = false := decide_eq_false hp
        have hb3 : decide (240 ≤ m) = false := decide_eq_false (by omega)
        have hb5 : (m == 254) = false := by simp; omega
        rw [if_neg (by omega), if_neg (by omega)] at hkk
        subst hkk
        clear h0 h1 hp
        go_enter Try.func13, Try.ntmps13
        go_wp2
        go_ret
        exact ⟨rfl, rfl⟩

theorem implMay (kind last : Int) (t : Bool) (w : World) (hk : kind = 0 ∨ kind = 1 ∨ kind = 2 ∨ kind = 3 ∨ kind = 4) (hl : last = 0 ∨ last = 1 ∨ last = 2 ∨ last = 3 ∨ last = 4) (ht : Hid (mayF kind last = t)) : Calls Try.prog 14 #[.int .i64 kind, .int .i64 last] w fun e w' => e = .returned (.bool t) ∧ w = w' := by
  have htt := unhide ht
  clear ht
  rcases hk with rfl | rfl | rfl | rfl | rfl <;> rcases hl with rfl | rfl | rfl | rfl | rfl
  all_goals
    simp [mayF] at htt
    subst htt
    go_enter Try.func14, Try.ntmps14
    go_wp2
    go_ret
    exact ⟨rfl, rfl⟩

theorem implCount (kind : Int) (n : Nat) (t : Bool) (w : World) (hk : kind = 0 ∨ kind = 1 ∨ kind = 2 ∨ kind = 3 ∨ kind = 4) (ht : Hid (cntOk kind n = t)) : Calls Try.prog 15 #[.int .i64 kind, .int .i64 n] w fun e w' => e = .returned (.bool t) ∧ w = w' := by
  have htt := unhide ht
  clear ht
  have hd1 : decide ((1 : Int) ≤ (n : Int)) = decide (1 ≤ n) := decide_eq_decide.2 (by omega)
  have hd2 : decide ((n : Int) ≤ 20000) = decide (n ≤ 20000) := decide_eq_decide.2 (by omega)
  have hd3 : ((n : Int) == 0) = decide (n = 0) := by rw [Bool.eq_iff_iff]; simp
  have HT := hide htt
  clear htt
  rcases hk with rfl | rfl | rfl | rfl | rfl
  · go_enter Try.func15, Try.ntmps15
    go_wp2
    go_ret
    exact ⟨ret_bool (by have := unhide HT; simpa [cntOk] using this), rfl⟩
  · cases h1 : decide (1 ≤ n) with
    | false =>
      rw [h1] at hd1
      have HT1 : Hid (t = false) := by have := unhide HT; simp only [cntOk, h1] at this; exact this.symm
      clear h1 HT
      go_enter Try.func15, Try.ntmps15
      go_wp2
      go_ret
      exact ⟨ret_bool (by rw [unhide HT1]), rfl⟩
    | true =>
      rw [h1] at hd1
      have HT1 : Hid (t = decide (n ≤ 20000)) := by have := unhide HT; simp only [cntOk, h1] at this; exact this.symm
      clear h1 HT
      go_enter Try.func15, Try.ntmps15
      go_wp2
      go_ret
      exact ⟨ret_bool (by rw [unhide HT1]), rfl⟩
  · go_enter Try.func15, Try.ntmps15
    go_wp2
    go_ret
    exact ⟨ret_bool (by have := unhide HT; rw [← this]; rfl), rfl⟩
  · go_enter Try.func15, Try.ntmps15
    go_wp2
    go_ret
    exact ⟨ret_bool (by have := unhide HT; rw [← this]; rfl), rfl⟩
  · go_enter Try.func15, Try.ntmps15
    go_wp2
    go_ret
    exact ⟨ret_bool (by have := unhide HT; simpa [cntOk] using this), rfl⟩

theorem toI_cases (k : Int) : toI k = 0 ∨ toI k = 1 ∨ toI k = 2 ∨ toI k = 3 ∨ toI k = 4 := by
  unfold toI; repeat' split
  all_goals simp

set_option maxHeartbeats 1600000 in
theorem implSegsOk (ao : Option Addr) (n cap : Nat) (ss : List (Int × List Int)) (w : World) (hr : RdS w ao n ss) :
    Calls Try.prog 7 #[.slice ao n cap] w fun e w' => e = .returned (.bool (okS ss)) ∧ w.grownBy w' none := by
  obtain ⟨hl, hc⟩ := hr
  by_cases hbig : n ≤ 300
  · have hdec : decide ((300 : Int) < (n : Int)) = false := by simp; omega
    have HS : Hid (okS ss = okFrom 0 ss) := by unfold Hid okS; rw [hl, decide_eq_true hbig]; rfl
    go_enter Try.func7, Try.ntmps7
    go_wp2
    go_loopw [3, 12] (fun a i wr => ∃ k : Nat, k ≤ n ∧ i = .int .i64 k ∧ a = .int .i64 (toI (wasK ss k)) ∧ okFrom 0 ss = okFrom (wasK ss k) (ss.drop k) ∧ w.grownBy wr none) (fun _ i _ => n - (intOf i).toNat)
    case atStart => exact ⟨0, Nat.zero_le _, rfl, rfl, rfl, World.grownBy.refl _ _⟩
    case round =>
      obtain ⟨k, hk, rfl, rfl, hok, hgk⟩ := hrel
      by_cases hlt : k < n
      · obtain ⟨b, off, dd, dc, rfl, hc1, hc2, _⟩ := hc k hlt
        have HST := hide (okFrom_step hok (by omega))
        have hseg := seg_may (wasK ss k) (wasK_cases ss k) (ss.getD k (0, []))
        have hik := ikOf_kind (ss.getD k (0, [])).1
        have HW : Hid (wasK ss (k + 1) = kindOf (ss.getD k (0, [])).1) := rfl
        have hca := hgk.cell hc1 (by simp)
        have hcb := hgk.cell hc2 (by simp)
        clear hok hc hc1 hc2
        obtain ⟨⟨mk, bk⟩, hf⟩ : ∃ f, ss.getD k (0, []) = f := ⟨_, rfl⟩
        rw [hf] at hca hcb HST HW hseg hik
        dsimp only at hca hcb HW hseg hik
        clear hf
        have hkc := ikOf_cases mk
        have hlc := toI_cases (wasK ss k)
        have stop : Hid (segOk1 (wasK ss k) (mk, bk) = false → okS ss = false) := fun h => by rw [unhide HS, unhide HST, h]; rfl
        have goon : Hid (segOk1 (wasK ss k) (mk, bk) = true → okFrom 0 ss = okFrom (wasK ss (k + 1)) (ss.drop (k + 1))) := fun h => by rw [unhide HST, h]; rfl
        rw [hseg] at stop goon
        have nx : Hid (mayF (ikOf mk) (toI (wasK ss k)) = true → cntOk (ikOf mk) bk.length = true → ikOf mk = toI (wasK ss (k + 1))) := by
          intro h1 h2
          rcases hik with ⟨_, h3 | h3⟩ | ⟨_, h3⟩
          · rw [h3] at h1; simp [mayF] at h1
          · rw [h3] at h2; simp [cntOk] at h2
          · rw [unhide HW]; exact h3
        clear hseg hik HST HW
        generalize toI (wasK ss k) = last at *
        obtain ⟨ki, hki⟩ : ∃ ki, ikOf mk = ki := ⟨_, rfl⟩
        rw [hki] at hkc stop goon nx
        have HKI := hide hki
        have HKC := hide hkc
        have HLC := hide hlc
        obtain ⟨t, ht⟩ : ∃ t, mayF ki last = t := ⟨_, rfl⟩
        obtain ⟨u, hu⟩ : ∃ u, cntOk ki bk.length = u := ⟨_, rfl⟩
        rw [ht, hu] at stop goon nx
        have HT := hide ht
        have HU := hide hu
        clear hki hkc hlc ht hu
        generalize bk.length = lk at *
        go_wp2_with fail
        refine (implKind mk ki _ HKI).mono ?_
        rintro e w1 ⟨rfl, rfl⟩
        go_wp2_with fail
        refine (implMay ki last t _ (unhide HKC) (unhide HLC) HT).mono ?_
        rintro e w2 ⟨rfl, rfl⟩
        cases t
        · go_wp2
          go_ret
          exact ⟨by rw [unhide stop rfl]; rfl, grown_alloc hgk _⟩
        · go_wp2_with fail
          refine (implCount ki lk u _ (unhide HKC) HU).mono ?_
          rintro e w3 ⟨rfl, rfl⟩
          cases u
          · go_wp2
            go_ret
            exact ⟨by rw [unhide stop rfl]; rfl, grown_alloc hgk _⟩
          · go_wp2
            go_roundw
            case rel => exact ⟨k + 1, by omega, by go_num, by rw [unhide nx (by simp) (by simp)], unhide goon rfl, grown_alloc hgk _⟩
            case measure => simp [intOf]; omega
      · have hkn : k = n := by omega
        subst hkn
        rw [← hl, List.drop_length] at hok
        have H : Hid (okS ss = true) := by unfold Hid; rw [unhide HS, hok]; cases (wasK ss ss.length) <;> rfl
        clear hok
        go_wp2
        go_ret
        exact ⟨by rw [unhide H]; rfl, hgk⟩
  · have hdec : decide ((300 : Int) < (n : Int)) = true := by simp; omega
    have HS : Hid (okS ss = false) := by unfold Hid okS; rw [hl, decide_eq_false hbig]; rfl
    go_enter Try.func7, Try.ntmps7
    go_wp2
    go_ret
    exact ⟨by rw [unhide HS]; rfl, World.grownBy.refl _ _⟩

end Go.Proofs.Ytdhgfbdanijgaaa

namespace Go.Proofs.Ytdhgfbdanijgaaa
open Go.RowKit

def compB (c : Nat → Int) : Bool := decide (0 ≤ c 0 ∧ c 0 ≤ 255) && (decide (1 ≤ c 1 ∧ c 1 ≤ 4) && (decide (1 ≤ c 2 ∧ c 2 ≤ 4) && decide (0 ≤ c 3 ∧ c 3 ≤ 3)))
/-- Whether one of the first m components has the Id of component k. -/
def idIn (C : Nat → Nat → Int) (k : Nat) : Nat → Bool
  | 0 => false
  | m + 1 => idIn C k m || (C m 0 == C k 0)
def okTo (C : Nat → Nat → Int) : Nat → Bool
  | 0 => true
  | k + 1 => okTo C k && (compB (C k) && !idIn C k k)
def sumHV (C : Nat → Nat → Int) : Nat → Int
  | 0 => 0
  | k + 1 => sumHV C k + C k 1 * C k 2
def headB (p wd ht rs : Int) : Bool := (p == 8 || p == 12) && (decide (1 ≤ wd ∧ wd ≤ 256) && (decide (1 ≤ ht ∧ ht ≤ 256) && (decide (wd * ht ≤ 16384) && decide (0 ≤ rs ∧ rs ≤ 255))))
def compsB (n : Nat) (C : Nat → Nat → Int) : Bool := decide (1 ≤ (n : Int) ∧ (n : Int) ≤ 4) && (okTo C n && decide (sumHV C n ≤ 10))
def frameB (p wd ht rs : Int) (n : Nat) (C : Nat → Nat → Int) : Bool := headB p wd ht rs && compsB n C

theorem okTo_false {C : Nat → Nat → Int} {k : Nat} (h : okTo C k = false) : ∀ n, k ≤ n → okTo C n = false := by
  intro n hn
  induction n with
  | zero => obtain rfl : k = 0 := by omega
            exact h
  | succ n ih =>
    by_cases e : k = n + 1
    · subst e; exact h
    · simp [okTo, ih (by omega)]
theorem okTo_true {C : Nat → Nat → Int} {n : Nat} (h : okTo C n = true) : ∀ k, k ≤ n → okTo C k = true := by
  intro k hk
  cases hc : okTo C k with
  | true => rfl
  | false => rw [okTo_false hc n hk] at h; exact h
theorem compB_bounds {c : Nat → Int} (h : compB c = true) : (0 ≤ c 0 ∧ c 0 ≤ 255) ∧ (1 ≤ c 1 ∧ c 1 ≤ 4) ∧ (1 ≤ c 2 ∧ c 2 ≤ 4) ∧ 0 ≤ c 3 ∧ c 3 ≤ 3 := by
  simpa [compB] using h
theorem mul_small {a b : Int} (ha : 1 ≤ a ∧ a ≤ 4) (hb : 1 ≤ b ∧ b ≤ 4) : 1 ≤ a * b ∧ a * b ≤ 16 := by
  obtain ⟨a0, a1⟩ := ha
  have : a = 1 ∨ a = 2 ∨ a = 3 ∨ a = 4 := by omega
  rcases this with rfl | rfl | rfl | rfl <;> omega
theorem mul_side {a b : Int} (ha : 1 ≤ a ∧ a ≤ 256) (hb : 1 ≤ b ∧ b ≤ 256) : 1 ≤ a * b ∧ a * b ≤ 65536 := by
  obtain ⟨a0, a1⟩ := ha
  obtain ⟨b0, b1⟩ := hb
  have h1 : 1 * 1 ≤ a * b := Int.mul_le_mul a0 b0 (by omega) (by omega)
  have h2 : a * b ≤ 256 * 256 := Int.mul_le_mul a1 b1 (by omega) (by omega)
  omega
theorem sumHV_bounds {C : Nat → Nat → Int} : ∀ k, okTo C k = true → 0 ≤ sumHV C k ∧ sumHV C k ≤ 16 * k
  | 0, _ => by simp [sumHV]
  | k + 1, h => by
    simp only [okTo, Bool.and_eq_true] at h
    have ih := sumHV_bounds k h.1
    obtain ⟨_, h1, h2, _⟩ := compB_bounds h.2.1
    have := mul_small h1 h2
    simp only [sumHV]
    omega
theorem idIn_congr {C D : Nat → Nat → Int} {k : Nat} (hk : C k = D k) : ∀ m, (∀ i, i < m → C i = D i) → idIn C k m = idIn D k m
  | 0, _ => rfl
  | m + 1, h => by simp only [idIn]; rw [idIn_congr hk m (fun i hi => h i (by omega)), h m (by omega), hk]
theorem okTo_congr {C D : Nat → Nat → Int} : ∀ k, (∀ i, i < k → C i = D i) → okTo C k = okTo D k
  | 0, _ => rfl
  | k + 1, h => by
    simp only [okTo]
    rw [okTo_congr k (fun i hi => h i (by omega)), h k (by omega), idIn_congr (h k (by omega)) k (fun i hi => h i (by omega))]
theorem sumHV_congr {C D : Nat → Nat → Int} : ∀ k, (∀ i, i < k → C i = D i) → sumHV C k = sumHV D k
  | 0, _ => rfl
  | k + 1, h => by simp only [sumHV]; rw [sumHV_congr k (fun i hi => h i (by omega)), h k (by omega)]
theorem compsB_congr {C D : Nat → Nat → Int} {n : Nat} (h : n ≤ 4 → ∀ i, i < n → C i = D i) : compsB n C = compsB n D := by
  by_cases hn : n ≤ 4
  · simp only [compsB]; rw [okTo_congr n (h hn), sumHV_congr n (h hn)]
  · have e : decide (1 ≤ (n : Int) ∧ (n : Int) ≤ 4) = false := by simp; omega
    simp only [compsB, e, Bool.false_and]
theorem idIn_true {C : Nat → Nat → Int} {k m : Nat} (h : (C m 0 == C k 0) = true) : ∀ n, m < n → idIn C k n = true := by
  intro n hn
  induction n with
  | zero => omega
  | succ n ih =>
    by_cases e : m = n
    · subst e; simp only [idIn, h, Bool.or_true]
    · simp only [idIn, ih (by omega), Bool.true_or]
theorem headB_facts {p wd ht rs : Int} (h : headB p wd ht rs = true) : (p = 8 ∨ p = 12) ∧ (1 ≤ wd ∧ wd ≤ 256) ∧ (1 ≤ ht ∧ ht ≤ 256) ∧ wd * ht ≤ 16384 ∧ 0 ≤ rs ∧ rs ≤ 255 := by
  simpa [headB] using h

end Go.Proofs.Ytdhgfbdanijgaaa

namespace Go.Proofs.Ytdhgfbdanijgaaa
open Go.RowKit

theorem wpList_load_row {P : Program} {ops : Array Oper} {rest : List Oper} {op : Oper} {a : Act} {w : World} {Q : Exit → Act → World → Prop} (hw : Region.wanted op (yielded ops a.tmps) = true) (ty : TypeId) (x : Operand) (ho : op.op = .load ty x)
    (b : Nat) (hx : a.eval x = .pointer (some ⟨b, 0, none⟩)) (X : Array Value) (t : TypeId) (hb : w.heap[b]? = some (.cells X t (0, 0))) (d : TypeDesc)
    (hu : P.underlying ty = some d) (hd : d.isRow = true) (hi : (P.info? ty).map (·.size) = some X.size)
    (h : wpList P ops Q rest (a.put op.dst (.agg X)) w) : wpList P ops Q (op :: rest) a w :=
  BigFrame.wpList_want hw fun _ hK => wp_load_mid ty x ho b 0 hx X.toList d (fun j v hv => by rw [cell_of_row w b (0 + j) X t (0, 0) hb]; simpa using hv) hu hd (by simpa using hi) (hK _ _ (by simpa using h))

/-- The cells of a frame with its components inside. -/
structure Fx (X : Array Value) (p wd ht rs n : Int) (C : Nat → Nat → Int) : Prop where
  size : X.size = 21
  c0 : X[0]? = some (.int .i64 p)
  c1 : X[1]? = some (.int .i64 wd)
  c2 : X[2]? = some (.int .i64 ht)
  c3 : X[3]? = some (.int .i64 rs)
  c4 : X[4]? = some (.int .i64 n)
  comp : ∀ i j, i < 4 → j < 4 → X[5 + i * 4 + j]? = some (.int .i64 (C i j))

theorem inRange (n lo hi : Int) (t : Bool) (ht : Hid (decide (lo ≤ n ∧ n ≤ hi) = t)) (w : World) :
    Calls Try.prog 26 #[.int .i64 n, .int .i64 lo, .int .i64 hi] w fun e w' => e = .returned (.bool t) ∧ w = w' := by
  by_cases h1 : lo ≤ n
  · by_cases h2 : n ≤ hi
    · have e : t = true := by rw [← unhide ht]; simp [h1, h2]
      subst e
      go_enter Try.func26, Try.ntmps26
      go_wp2
      go_ret
      exact ⟨by simp, rfl⟩
    · have e : t = false := by rw [← unhide ht]; simp [h2]
      subst e
      go_enter Try.func26, Try.ntmps26
      go_wp2
      go_ret
      exact ⟨by simp, rfl⟩
  · have e : t = false := by rw [← unhide ht]; simp [h1]
    subst e
    have hd : decide (lo ≤ n) = false := by simpa using h1
    go_enter Try.func26, Try.ntmps26
    go_wp2
    go_ret
    exact ⟨rfl, rfl⟩

set_option maxHeartbeats 800000 in
theorem isNone_no (X : Array Value) (p wd ht rs n : Int) (C : Nat → Nat → Int) (hX : Fx X p wd ht rs n C) (hp : (p == 0) = false) (w : World) :
    Calls Try.prog 17 #[.agg X] w fun e w' => e = .returned (.bool false) ∧ w.grownBy w' none := by
  have hs := hX.size
  have h0 := hX.c0
  have h0' : X[0] = .int .i64 p := by rw [Array.getElem?_eq_getElem (by omega)] at h0; simpa using h0
  go_enter Try.func17, Try.ntmps17
  go_wp2_with (refine wpList_load_row rfl 51 _ rfl w.heap.size rfl X 51 (heap_alloc_new _ _) _ Try.underlying51 rfl (by rw [hs]; kernel_rfl) ?_)
  go_ret
  exact ⟨rfl, grown_alloc (World.grownBy.refl _ _) _⟩

theorem eqComps (w : World) : (Op.equalIn 9999 49 (.agg #[.int .i64 0, .int .i64 0, .int .i64 0, .int .i64 0, .int .i64 0, .int .i64 0, .int .i64 0, .int .i64 0, .int .i64 0, .int .i64 0, .int .i64 0, .int .i64 0, .int .i64 0, .int .i64 0, .int .i64 0, .int .i64 0]) (.agg #[.int .i64 0, .int .i64 0, .int .i64 0, .int .i64 0, .int .i64 0, .int .i64 0, .int .i64 0, .int .i64 0, .int .i64 0, .int .i64 0, .int .i64 0, .int .i64 0, .int .i64 0, .int .i64 0, .int .i64 0, .int .i64 0])).run Try.prog w = .ok true w := by kernel_rfl
theorem eqNought (w : World) : (Op.equalIn 9999 3 (.int .i64 0) (.int .i64 0)).run Try.prog w = .ok true w := by kernel_rfl

set_option maxHeartbeats 800000 in
theorem isNone_yes (w : World) :
    Calls Try.prog 17 #[.agg #[.int .i64 0, .int .i64 0, .int .i64 0, .int .i64 0, .int .i64 0, .int .i64 0, .int .i64 0, .int .i64 0, .int .i64 0, .int .i64 0, .int .i64 0, .int .i64 0, .int .i64 0, .int .i64 0, .int .i64 0, .int .i64 0, .int .i64 0, .int .i64 0, .int .i64 0, .int .i64 0, .int .i64 0]] w fun e w' => e = .returned (.bool true) ∧ w.grownBy w' none := by
  obtain ⟨X, hX⟩ : ∃ X, X = (#[.int .i64 0, .int .i64 0, .int .i64 0, .int .i64 0, .int .i64 0, .int .i64 0, .int .i64 0, .int .i64 0, .int .i64 0, .int .i64 0, .int .i64 0, .int .i64 0, .int .i64 0, .int .i64 0, .int .i64 0, .int .i64 0, .int .i64 0, .int .i64 0, .int .i64 0, .int .i64 0, .int .i64 0] : Array Value) := ⟨_, rfl⟩
  have hs : X.size = 21 := by rw [hX]; rfl
  have h0 : X[0] = .int .i64 0 := by subst hX; rfl
  have h1 : X[1] = .int .i64 0 := by subst hX; rfl
  have h2 : X[2] = .int .i64 0 := by subst hX; rfl
  have h3 : X[3] = .int .i64 0 := by subst hX; rfl
  have h4 : X[4] = .int .i64 0 := by subst hX; rfl
  have h5 : X.extract 5 21 = #[.int .i64 0, .int .i64 0, .int .i64 0, .int .i64 0, .int .i64 0, .int .i64 0, .int .i64 0, .int .i64 0, .int .i64 0, .int .i64 0, .int .i64 0, .int .i64 0, .int .i64 0, .int .i64 0, .int .i64 0, .int .i64 0] := by subst hX; rfl
  have e3 := eqNought
  have e48 := eqComps
  rw [← hX]
  clear hX
  go_enter Try.func17, Try.ntmps17
  go_wp2_with (refine wpList_load_row rfl 51 _ rfl w.heap.size rfl X 51 (heap_alloc_new _ _) _ Try.underlying51 rfl (by rw [hs]; kernel_rfl) ?_)
  go_ret
  exact ⟨rfl, grown_alloc (World.grownBy.refl _ _) _⟩

set_option maxHeartbeats 800000 in
theorem headOk (X : Array Value) (p wd ht rs n : Int) (C : Nat → Nat → Int) (hX : Fx X p wd ht rs n C) (t : Bool) (HT : Hid (headB p wd ht rs = t)) (w : World) :
    Calls Try.prog 29 #[.agg X] w fun e w' => e = .returned (.bool t) ∧ w.grownBy w' none := by
  have hs := hX.size
  have h0 := hX.c0
  have h1 := hX.c1
  have h2 := hX.c2
  have h3 := hX.c3
  have h0' : X[0] = .int .i64 p := by rw [Array.getElem?_eq_getElem (by omega)] at h0; simpa using h0
  have h1' : X[1] = .int .i64 wd := by rw [Array.getElem?_eq_getElem (by omega)] at h1; simpa using h1
  have h2' : X[2] = .int .i64 ht := by rw [Array.getElem?_eq_getElem (by omega)] at h2; simpa using h2
  have h3' : X[3] = .int .i64 rs := by rw [Array.getElem?_eq_getElem (by omega)] at h3; simpa using h3
  have hcase : (p = 8 ∨ p = 12) ∨ ((p != 8) = true ∧ (p != 12) = true ∧ (p == 8) = false ∧ (p == 12) = false) := by
    by_cases e8 : p = 8
    · exact .inl (.inl e8)
    · by_cases e12 : p = 12
      · exact .inl (.inr e12)
      · exact .inr (by simp [e8, e12])
  rcases hcase with hp | ⟨n8, n12, m8, m12⟩
  · obtain ⟨t1, HT1⟩ : ∃ t1, Hid (decide (1 ≤ wd ∧ wd ≤ 256) = t1) := ⟨_, rfl⟩
    obtain ⟨t2, HT2⟩ : ∃ t2, Hid (decide (1 ≤ ht ∧ ht ≤ 256) = t2) := ⟨_, rfl⟩
    obtain ⟨t4, HT4⟩ : ∃ t4, Hid (decide (0 ≤ rs ∧ rs ≤ 255) = t4) := ⟨_, rfl⟩
    have HP : Hid (t = (t1 && (t2 && (decide (wd * ht ≤ 16384) && t4)))) := by
      have e : (p == 8 || p == 12) = true := by rcases hp with rfl | rfl <;> rfl
      unfold Hid; rw [← unhide HT, headB, e, unhide HT1, unhide HT2, unhide HT4, Bool.true_and]
    clear HT
    cases t1
    · rcases hp with rfl | rfl
      all_goals
        go_enter Try.func29, Try.ntmps29
        go_wp2_with fail
        refine (inRange wd 1 256 _ HT1 _).mono ?_
        rintro e w1 ⟨rfl, rfl⟩
        go_wp2
        go_ret
        exact ⟨ret_bool (by rw [unhide HP]; rfl), grown_alloc (World.grownBy.refl _ _) _⟩
    · cases t2
      · rcases hp with rfl | rfl
        all_goals
          go_enter Try.func29, Try.ntmps29
          go_wp2_with fail
          refine (inRange wd 1 256 _ HT1 _).mono ?_
          rintro e w1 ⟨rfl, rfl⟩
          go_wp2_with fail
          refine (inRange ht 1 256 _ HT2 _).mono ?_
          rintro e w1 ⟨rfl, rfl⟩
          go_wp2
          go_ret
          exact ⟨ret_bool (by rw [unhide HP]; rfl), grown_alloc (World.grownBy.refl _ _) _⟩
      · have hb1 := of_decide_eq_true (unhide HT1)
        have hb2 := of_decide_eq_true (unhide HT2)
        have hm := mul_side hb1 hb2
        have hwr := i64_in (wd * ht) (by omega)
        clear hm hb1 hb2
        cases t3 : decide (wd * ht ≤ 16384)
        · rw [t3] at HP
          rcases hp with rfl | rfl
          all_goals
            go_enter Try.func29, Try.ntmps29
            go_wp2_with fail
            refine (inRange wd 1 256 _ HT1 _).mono ?_
            rintro e w1 ⟨rfl, rfl⟩
            go_wp2_with fail
            refine (inRange ht 1 256 _ HT2 _).mono ?_
            rintro e w1 ⟨rfl, rfl⟩
            go_wp2
            go_ret
            exact ⟨ret_bool (by rw [unhide HP]; rfl), grown_alloc (World.grownBy.refl _ _) _⟩
        · rw [t3] at HP
          rcases hp with rfl | rfl
          all_goals
            go_enter Try.func29, Try.ntmps29
            go_wp2_with fail
            refine (inRange wd 1 256 _ HT1 _).mono ?_
            rintro e w1 ⟨rfl, rfl⟩
            go_wp2_with fail
            refine (inRange ht 1 256 _ HT2 _).mono ?_
            rintro e w1 ⟨rfl, rfl⟩
            go_wp2_with fail
            refine (inRange rs 0 255 _ HT4 _).mono ?_
            rintro e w1 ⟨rfl, rfl⟩
            go_wp2
            go_ret
            exact ⟨ret_bool (by rw [unhide HP]; rfl), grown_alloc (World.grownBy.refl _ _) _⟩
  · have HP : Hid (t = false) := by unfold Hid; rw [← unhide HT, headB, m8, m12]; rfl
    clear HT m8 m12
    go_enter Try.func29, Try.ntmps29
    go_wp2
    go_ret
    exact ⟨ret_bool (by rw [unhide HP]), grown_alloc (World.grownBy.refl _ _) _⟩

set_option maxHeartbeats 800000 in
theorem compOk (c : Nat → Int) (t : Bool) (HT : Hid (compB c = t)) (w : World) :
    Calls Try.prog 40 #[.agg #[.int .i64 (c 0), .int .i64 (c 1), .int .i64 (c 2), .int .i64 (c 3)]] w fun e w' => e = .returned (.bool t) ∧ w.grownBy w' none := by
  obtain ⟨t1, HT1⟩ : ∃ t1, Hid (decide (0 ≤ c 0 ∧ c 0 ≤ 255) = t1) := ⟨_, rfl⟩
  obtain ⟨t2, HT2⟩ : ∃ t2, Hid (decide (1 ≤ c 1 ∧ c 1 ≤ 4) = t2) := ⟨_, rfl⟩
  obtain ⟨t3, HT3⟩ : ∃ t3, Hid (decide (1 ≤ c 2 ∧ c 2 ≤ 4) = t3) := ⟨_, rfl⟩
  obtain ⟨t4, HT4⟩ : ∃ t4, Hid (decide (0 ≤ c 3 ∧ c 3 ≤ 3) = t4) := ⟨_, rfl⟩
  have HP : Hid (t = (t1 && (t2 && (t3 && t4)))) := by unfold Hid; rw [← unhide HT, compB, unhide HT1, unhide HT2, unhide HT3, unhide HT4]
  clear HT
  generalize c 0 = c0 at *
  generalize c 1 = c1 at *
  generalize c 2 = c2 at *
  generalize c 3 = c3 at *
  cases t1
  · go_enter Try.func40, Try.ntmps40
    go_wp2_with fail
    refine (inRange c0 0 255 _ HT1 _).mono ?_
    rintro e w1 ⟨rfl, rfl⟩
    go_wp2
    go_ret
    exact ⟨ret_bool (by rw [unhide HP]; rfl), grown_alloc (World.grownBy.refl _ _) _⟩
  · cases t2
    · go_enter Try.func40, Try.ntmps40
      go_wp2_with fail
      refine (inRange c0 0 255 _ HT1 _).mono ?_
      rintro e w1 ⟨rfl, rfl⟩
      go_wp2_with fail
      refine (inRange c1 1 4 _ HT2 _).mono ?_
      rintro e w1 ⟨rfl, rfl⟩
      go_wp2
      go_ret
      exact ⟨ret_bool (by rw [unhide HP]; rfl), grown_alloc (World.grownBy.refl _ _) _⟩
    · cases t3
      · go_enter Try.func40, Try.ntmps40
        go_wp2_with fail
        refine (inRange c0 0 255 _ HT1 _).mono ?_
        rintro e w1 ⟨rfl, rfl⟩
        go_wp2_with fail
        refine (inRange c1 1 4 _ HT2 _).mono ?_
        rintro e w1 ⟨rfl, rfl⟩
        go_wp2_with fail
        refine (inRange c2 1 4 _ HT3 _).mono ?_
        rintro e w1 ⟨rfl, rfl⟩
        go_wp2
        go_ret
        exact ⟨ret_bool (by rw [unhide HP]; rfl), grown_alloc (World.grownBy.refl _ _) _⟩
      · go_enter Try.func40, Try.ntmps40
        go_wp2_with fail
        refine (inRange c0 0 255 _ HT1 _).mono ?_
        rintro e w1 ⟨rfl, rfl⟩
        go_wp2_with fail
        refine (inRange c1 1 4 _ HT2 _).mono ?_
        rintro e w1 ⟨rfl, rfl⟩
        go_wp2_with fail
        refine (inRange c2 1 4 _ HT3 _).mono ?_
        rintro e w1 ⟨rfl, rfl⟩
        go_wp2_with fail
        refine (inRange c3 0 3 _ HT4 _).mono ?_
        rintro e w1 ⟨rfl, rfl⟩
        go_wp2
        go_ret
        exact ⟨ret_bool (by rw [unhide HP]; rfl), grown_alloc (World.grownBy.refl _ _) _⟩

end Go.Proofs.Ytdhgfbdanijgaaa

namespace Go.Proofs.Ytdhgfbdanijgaaa
open Go.RowKit

/-- The cells of component i, where the frame lies. -/
theorem fx_cell {X : Array Value} {p wd ht rs n : Int} {C : Nat → Nat → Int} (hX : Fx X p wd ht rs n C) {w : World} {g : Nat} {t : TypeId} (hb : w.heap[g]? = some (.cells X t (0, 0))) (i j : Nat) (hi : i < 4) (hj : j < 4) :
    w.cell? ⟨g, 5 + i * 4 + j, none⟩ = some (.int .i64 (C i j)) := by rw [cell_of_row w g _ X t (0, 0) hb]; exact hX.comp i j hi hj

set_option maxHeartbeats 800000 in
theorem idAhead (X : Array Value) (p wd ht rs n : Int) (C : Nat → Nat → Int) (hX : Fx X p wd ht rs n C) (m : Nat) (hm : m < 4) (t : Bool) (HT : Hid (idIn C m m = t)) (w : World) :
    Calls Try.prog 41 #[.agg X, .int .i64 m] w fun e w' => e = .returned (.bool t) ∧ w.grownBy w' none := by
  have HX := hide hX
  have hs := hX.size
  have HB := hide (heap_alloc_new w (.cells X 51))
  have G0 : Hid (w.grownBy (w.alloc (.cells X 51)) none) := grown_alloc (World.grownBy.refl _ _) _
  have hgs : w.heap.size < (w.alloc (.cells X 51)).heap.size := by simp
  clear hX
  go_enter Try.func41, Try.ntmps41
  go_wp2
  generalize (w.alloc (.cells X 51)) = wx at *
  go_loopw [7] (fun i wr => ∃ k : Nat, k ≤ m ∧ i = .int .i64 k ∧ idIn C m k = false ∧ wx.grownBy wr none) (fun i _ => m - (intOf i).toNat)
  case atStart => exact ⟨0, Nat.zero_le _, rfl, rfl, World.grownBy.refl _ _⟩
  case round =>
    obtain ⟨k, hk, rfl, hid, hgk⟩ := hrel
    by_cases hlt : k < m
    · have hB := (hgk.block w.heap.size hgs (by simp)).trans (unhide HB)
      have hck := fx_cell (unhide HX) hB k 0 (by omega) (by omega)
      have hcm := fx_cell (unhide HX) hB m 0 (by omega) (by omega)
      rw [Nat.add_zero] at hck hcm
      have HST : Hid (idIn C m (k + 1) = (idIn C m k || (C k 0 == C m 0))) := rfl
      have HTR : Hid ((C k 0 == C m 0) = true → t = true) := fun h => by rw [← unhide HT]; exact idIn_true h m hlt
      have HID := hide hid
      clear hB hid
      generalize C k 0 = x at *
      generalize C m 0 = y at *
      cases hxy : (x == y) with
      | false =>
        have HXY := hide hxy
        go_wp2
        go_quiet (fail)
        go_wp2
        go_roundw
        case rel => exact ⟨k + 1, by omega, by go_num, by rw [unhide HST, unhide HID, unhide HXY]; rfl, grown_drewN hgk _⟩
        case measure => simp [intOf]; omega
      | true =>
        have HXY := hide hxy
        go_wp2
        go_quiet (fail)
        go_wp2
        go_ret
        exact ⟨ret_bool (by rw [unhide HTR (unhide HXY)]), grown_trans (unhide G0) (grown_drewN hgk _)⟩
    · have hkm : k = m := by omega
      subst hkm
      have HF : Hid (t = false) := by unfold Hid; rw [← unhide HT, hid]
      clear hid
      go_wp2
      go_ret
      exact ⟨ret_bool (by rw [unhide HF]), grown_trans (unhide G0) hgk⟩

set_option maxHeartbeats 1600000 in
theorem compsOk (X : Array Value) (p wd ht rs : Int) (n : Nat) (C : Nat → Nat → Int) (hX : Fx X p wd ht rs n C) (t : Bool) (HT : Hid (compsB n C = t)) (w : World) :
    Calls Try.prog 30 #[.agg X] w fun e w' => e = .returned (.bool t) ∧ w.grownBy w' none := by
  have HX := hide hX
  have hs := hX.size
  have h4 := hX.c4
  have h4' : X[4] = .int .i64 n := by rw [Array.getElem?_eq_getElem (by omega)] at h4; simpa using h4
  have HB := hide (heap_alloc_new w (.cells X 51))
  have G0 : Hid (w.grownBy (w.alloc (.cells X 51)) none) := grown_alloc (World.grownBy.refl _ _) _
  have hgs : w.heap.size < (w.alloc (.cells X 51)).heap.size := by simp
  clear hX
  by_cases hn : 1 ≤ (n : Int) ∧ (n : Int) ≤ 4
  · have HN : Hid (decide (1 ≤ (n : Int) ∧ (n : Int) ≤ 4) = true) := decide_eq_true hn
    have HR : Hid (t = (okTo C n && decide (sumHV C n ≤ 10))) := by unfold Hid; rw [← unhide HT, compsB, unhide HN, Bool.true_and]
    clear HT
    have hn4 : n ≤ 4 := by omega
    go_enter Try.func30, Try.ntmps30
    go_wp2_with fail
    refine (inRange n 1 4 _ HN _).mono ?_
    rintro e w1 ⟨rfl, rfl⟩
    go_wp2
    generalize (w.alloc (.cells X 51)) = wx at *
    go_loopw [3, 12] (fun b i wr => ∃ k : Nat, k ≤ n ∧ i = .int .i64 k ∧ b = .int .i64 (sumHV C k) ∧ okTo C k = true ∧ wx.grownBy wr none) (fun _ i _ => n - (intOf i).toNat)
    case atStart => exact ⟨0, Nat.zero_le _, rfl, rfl, rfl, World.grownBy.refl _ _⟩
    case round =>
      obtain ⟨k, hk, rfl, rfl, hok, hgk⟩ := hrel
      by_cases hlt : k < n
      · have hB := (hgk.block w.heap.size hgs (by simp)).trans (unhide HB)
        have h0 := fx_cell (unhide HX) hB k 0 (by omega) (by omega)
        have h1 := fx_cell (unhide HX) hB k 1 (by omega) (by omega)
        have h2 := fx_cell (unhide HX) hB k 2 (by omega) (by omega)
        have h3 := fx_cell (unhide HX) hB k 3 (by omega) (by omega)
        rw [Nat.add_zero] at h0
        have HBK := hide hB
        have HOK := hide hok
        have HSB := hide (sumHV_bounds k hok)
        have HS1 : Hid (okTo C (k + 1) = (okTo C k && (compB (C k) && !idIn C k k))) := rfl
        have HS2 : Hid (sumHV C (k + 1) = sumHV C k + C k 1 * C k 2) := rfl
        have STOP : Hid ((compB (C k) && !idIn C k k) = false → t = false) := fun h => by rw [unhide HR, okTo_false (k := k + 1) (by rw [unhide HS1, h, Bool.and_false]) n hlt]; rfl
        have hsz := hgk.size
        obtain ⟨t1, HT1⟩ : ∃ t1, Hid (compB (C k) = t1) := ⟨_, rfl⟩
        obtain ⟨t2, HT2⟩ : ∃ t2, Hid (idIn C k k = t2) := ⟨_, rfl⟩
        rw [unhide HT1, unhide HT2] at STOP HS1
        have HCK := hide (heap_alloc_new wr (.cells #[.int .i64 (C k 0), .int .i64 (C k 1), .int .i64 (C k 2), .int .i64 (C k 3)] 35))
        have GK : Hid (wr.grownBy (wr.alloc (.cells #[.int .i64 (C k 0), .int .i64 (C k 1), .int .i64 (C k 2), .int .i64 (C k 3)] 35)) none) := grown_alloc (World.grownBy.refl _ _) _
        have hgz : wr.heap.size < (wr.alloc (.cells #[.int .i64 (C k 0), .int .i64 (C k 1), .int .i64 (C k 2), .int .i64 (C k 3)] 35)).heap.size := by simp
        clear hB hok
        go_wp2_with fail
        refine (compOk (C k) t1 HT1 _).mono ?_
        generalize (wr.alloc (.cells #[.int .i64 (C k 0), .int .i64 (C k 1), .int .i64 (C k 2), .int .i64 (C k 3)] 35)) = wy at *
        rintro e w2 ⟨rfl, g2⟩
        have G2 := grown_trans hgk (grown_trans (unhide GK) g2)
        cases t1
        · go_wp2
          go_ret
          exact ⟨ret_bool (by rw [unhide STOP rfl]), grown_trans (unhide G0) G2⟩
        · have hB2 := (G2.block w.heap.size hgs (by simp)).trans (unhide HB)
          go_wp2_with (refine wpList_load_row rfl 51 _ rfl w.heap.size rfl X 51 hB2 _ Try.underlying51 rfl (by rw [hs]; kernel_rfl) ?_)
          refine (idAhead X p wd ht rs n C (unhide HX) k (by omega) t2 HT2 _).mono ?_
          rintro e w3 ⟨rfl, g3⟩
          have G3 := grown_trans G2 g3
          cases t2
          · have hbk := (grown_trans g2 g3).block wr.heap.size hgz (by simp)
            have hbk' := hbk.trans (unhide HCK)
            have c1 : w3.cell? ⟨wr.heap.size, 1, none⟩ = some (.int .i64 (C k 1)) := by rw [cell_of_row w3 _ 1 _ _ (0, 0) hbk']; rfl
            have c2 : w3.cell? ⟨wr.heap.size, 2, none⟩ = some (.int .i64 (C k 2)) := by rw [cell_of_row w3 _ 2 _ _ (0, 0) hbk']; rfl
            obtain ⟨_, hb1, hb2, _⟩ := compB_bounds (unhide HT1)
            have hmul := mul_small hb1 hb2
            have hsb := unhide HSB
            clear hbk hbk' hb1 hb2 hB2 h0 h1 h2 h3
            generalize C k 1 = x at *
            generalize C k 2 = y at *
            have hw1 := i64_in (x * y) (by omega)
            have hw2 := i64_in (sumHV C k + x * y) (by omega)
            generalize hxy : x * y = z at *
            have HXY := hide hxy
            clear hxy
            generalize sumHV C k = sm at *
            go_wp2
            go_roundw
            case rel => exact ⟨k + 1, by omega, by go_num, by rw [unhide HXY, IntWalk.wrap64_in z (by omega), IntWalk.wrap64_in (sm + z) (by omega), unhide HS2], by rw [unhide HS1, unhide HOK]; rfl, G3⟩
            case measure => simp [intOf]; omega
          · go_wp2
            go_ret
            exact ⟨ret_bool (by rw [unhide STOP rfl]), grown_trans (unhide G0) G3⟩
      · have hkn : k = n := by omega
        subst hkn
        have HF : Hid (t = decide (sumHV C k ≤ 10)) := by unfold Hid; rw [unhide HR, hok, Bool.true_and]
        have hsb := sumHV_bounds k hok
        clear hok
        go_wp2
        go_ret
        exact ⟨ret_bool (by rw [unhide HF]), grown_trans (unhide G0) hgk⟩
  · have HN : Hid (decide (1 ≤ (n : Int) ∧ (n : Int) ≤ 4) = false) := decide_eq_false hn
    have HF : Hid (t = false) := by unfold Hid; rw [← unhide HT, compsB, unhide HN, Bool.false_and]
    clear HT hn
    go_enter Try.func30, Try.ntmps30
    go_wp2_with fail
    refine (inRange n 1 4 _ HN _).mono ?_
    rintro e w1 ⟨rfl, rfl⟩
    go_wp2
    go_ret
    exact ⟨ret_bool (by rw [unhide HF]), unhide G0⟩

end Go.Proofs.Ytdhgfbdanijgaaa
