/-
  The order of blocks, as mathematics: lists of components that rise; places, units, and their order.
-/
import Derived.Test.YtnjcmlmgjoaeeaaGeoPure
import Derived.Test.YtnjcmlmgjoaeeaaKit
namespace Go.Proofs.Ytnjcmlmgjoaeeaa

/-- The first k numbers are components of n, rising. -/
def compsTo (n : Nat) (cs : List Int) : Nat → Bool
  | 0 => true
  | k + 1 => compsTo n cs k && (decide (0 ≤ cs.getD k 0 ∧ cs.getD k 0 ≤ (n : Int) - 1) && decide (k = 0 ∨ cs.getD (k - 1) 0 < cs.getD k 0))
def okComps (n : Nat) (cs : List Int) : Bool := compsTo n cs cs.length && decide (0 < cs.length)

theorem compsTo_false {n : Nat} {cs : List Int} {k : Nat} (h : compsTo n cs k = false) : ∀ m, k ≤ m → compsTo n cs m = false := by
  intro m hm
  induction m with
  | zero => obtain rfl : k = 0 := by omega
            exact h
  | succ m ih =>
    by_cases e : k = m + 1
    · subst e; exact h
    · simp [compsTo, ih (by omega)]
theorem compsTo_true {n : Nat} {cs : List Int} {m : Nat} (h : compsTo n cs m = true) : ∀ k, k ≤ m → compsTo n cs k = true := by
  intro k hk
  cases hc : compsTo n cs k with
  | true => rfl
  | false => rw [compsTo_false hc m hk] at h; exact h
theorem compsTo_at {n : Nat} {cs : List Int} {m : Nat} (h : compsTo n cs m = true) (k : Nat) (hk : k < m) : (0 ≤ cs.getD k 0 ∧ cs.getD k 0 ≤ (n : Int) - 1) ∧ (k = 0 ∨ cs.getD (k - 1) 0 < cs.getD k 0) := by
  have := compsTo_true h (k + 1) (by omega)
  simp only [compsTo, Bool.and_eq_true, decide_eq_true_eq] at this
  exact this.2
theorem compsTo_ge {n : Nat} {cs : List Int} {m : Nat} (h : compsTo n cs m = true) : ∀ k, k < m → (k : Int) ≤ cs.getD k 0
  | 0, hk => (compsTo_at h 0 hk).1.1
  | k + 1, hk => by
    have ih := compsTo_ge h k (by omega)
    rcases (compsTo_at h (k + 1) hk).2 with e | e
    · omega
    · simp only [Nat.add_sub_cancel] at e; omega
theorem compsTo_len {n : Nat} {cs : List Int} {m : Nat} (h : compsTo n cs m = true) : m ≤ n := by
  cases m with
  | zero => omega
  | succ m =>
    have h1 := compsTo_ge h m (by omega)
    have h2 := (compsTo_at h m (by omega)).1.2
    omega

/-- A place: a component, a row, a column. -/
abbrev Pl := Int × Int × Int
/-- z places of a row from a column on. -/
def zTo (c a b : Int) : Nat → List Pl
  | 0 => []
  | z + 1 => zTo c a b z ++ [(c, a, b + z)]
/-- y rows of H places. -/
def yTo (c a b : Int) (H : Nat) : Nat → List Pl
  | 0 => []
  | y + 1 => yTo c a b H y ++ zTo c (a + y) b H
/-- A unit's places of its first i components. -/
def iTo (C : Nat → Nat → Int) (cs : List Int) (r k : Nat) : Nat → List Pl
  | 0 => []
  | i + 1 => iTo C cs r k i ++ yTo (cs.getD i 0) (r * C (cs.getD i 0).toNat 2) (k * C (cs.getD i 0).toNat 1) (C (cs.getD i 0).toNat 1).toNat (C (cs.getD i 0).toNat 2).toNat
def kTo (C : Nat → Nat → Int) (cs : List Int) (r : Nat) : Nat → List (List Pl)
  | 0 => []
  | k + 1 => kTo C cs r k ++ [iTo C cs r k cs.length]
def rTo (C : Nat → Nat → Int) (cs : List Int) (W : Nat) : Nat → List (List Pl)
  | 0 => []
  | r + 1 => rTo C cs W r ++ kTo C cs r W
def k1To (c : Int) (r : Nat) : Nat → List (List Pl)
  | 0 => []
  | k + 1 => k1To c r k ++ [[(c, (r : Int), (k : Int))]]
def r1To (c : Int) (W : Nat) : Nat → List (List Pl)
  | 0 => []
  | r + 1 => r1To c W r ++ k1To c r W
/-- The units of an order. -/
def unitsG (wd ht : Int) (n : Nat) (C : Nat → Nat → Int) (cs : List Int) : List (List Pl) :=
  if cs.length = 1 then r1To (cs.getD 0 0) (upI (upI (wd * C (cs.getD 0 0).toNat 1) (mostA 1 C 1 n)) 8).toNat (upI (upI (ht * C (cs.getD 0 0).toNat 2) (mostA 1 C 2 n)) 8).toNat
  else rTo C cs (upI wd (8 * mostA 1 C 1 n)).toNat (upI ht (8 * mostA 1 C 2 n)).toNat
/-- The order of a frame and components, whatever they are. -/
def orderG (b : Bool) (wd ht : Int) (n : Nat) (C : Nat → Nat → Int) (cs : List Int) : List (List Pl) := if b && okComps n cs then unitsG wd ht n C cs else []

theorem zTo_len (c a b : Int) : ∀ z, (zTo c a b z).length = z
  | 0 => rfl
  | z + 1 => by simp [zTo, zTo_len c a b z]
theorem yTo_len (c a b : Int) (H : Nat) : ∀ y, (yTo c a b H y).length = y * H
  | 0 => by simp [yTo]
  | y + 1 => by simp [yTo, yTo_len c a b H y, zTo_len, Nat.succ_mul]
theorem kTo_len (C : Nat → Nat → Int) (cs : List Int) (r : Nat) : ∀ k, (kTo C cs r k).length = k
  | 0 => rfl
  | k + 1 => by simp [kTo, kTo_len C cs r k]
theorem rTo_len (C : Nat → Nat → Int) (cs : List Int) (W : Nat) : ∀ r, (rTo C cs W r).length = r * W
  | 0 => by simp [rTo]
  | r + 1 => by simp [rTo, rTo_len C cs W r, kTo_len, Nat.succ_mul]
theorem k1To_len (c : Int) (r : Nat) : ∀ k, (k1To c r k).length = k
  | 0 => rfl
  | k + 1 => by simp [k1To, k1To_len c r k]
theorem r1To_len (c : Int) (W : Nat) : ∀ r, (r1To c W r).length = r * W
  | 0 => by simp [r1To]
  | r + 1 => by simp [r1To, r1To_len c W r, k1To_len, Nat.succ_mul]

/-- The cells of places. -/
def plCells : List Pl → List Value
  | [] => []
  | p :: ps => .int .i64 p.1 :: .int .i64 p.2.1 :: .int .i64 p.2.2 :: plCells ps
theorem plCells_app : ∀ (xs ys : List Pl), plCells (xs ++ ys) = plCells xs ++ plCells ys
  | [], ys => rfl
  | p :: xs, ys => by simp [plCells, plCells_app xs ys]
theorem plCells_len : ∀ xs : List Pl, (plCells xs).length = xs.length * 3
  | [] => rfl
  | p :: xs => by simp [plCells, plCells_len xs]; omega
theorem plCells_one : ∀ xs : List Pl, ∀ v ∈ plCells xs, v.oneCell' = true
  | [], v, h => by simp [plCells] at h
  | p :: xs, v, h => by
    simp [plCells] at h
    rcases h with rfl | rfl | rfl | h
    · rfl
    · rfl
    · rfl
    · exact plCells_one xs v h
theorem plCells_at : ∀ (xs : List Pl) (i : Nat) (h : i < xs.length), (plCells xs)[i * 3]? = some (.int .i64 (xs[i].1)) ∧ (plCells xs)[i * 3 + 1]? = some (.int .i64 (xs[i].2.1)) ∧ (plCells xs)[i * 3 + 2]? = some (.int .i64 (xs[i].2.2))
  | p :: xs, 0, _ => ⟨rfl, rfl, rfl⟩
  | p :: xs, i + 1, h => by
    have ih := plCells_at xs i (by simpa using h)
    simp only [plCells, Nat.succ_mul]
    refine ⟨?_, ?_, ?_⟩
    · simpa using ih.1
    · have e : i * 3 + 3 + 1 = (i * 3 + 1) + 1 + 1 + 1 := by omega
      rw [e]; simpa using ih.2.1
    · have e : i * 3 + 3 + 2 = (i * 3 + 2) + 1 + 1 + 1 := by omega
      rw [e]; simpa using ih.2.2

end Go.Proofs.Ytnjcmlmgjoaeeaa
