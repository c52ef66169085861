/-
  What the laws' own small functions give, on values with depth.
-/
import Derived.Test.YtgknninkfdgebaaTree
import Derived.Test.YtgknninkfdgebaaRows
namespace Go.Proofs.Ytgknninkfdgebaa
open Go.RowKit

def ToC {α : Type} (f : Nat) (Q : World → Value → α → Prop) (P : World → Value → α → List Nat → Prop) (sz : α → Nat) : Prop :=
  ∀ (w : World) (u : Value) (a : α), Q w u a → sz a ≤ 1048576 → Calls Try.prog f #[u] w fun e w' => ∃ u' F, e = .returned u' ∧ P w' u' a F ∧ F.Nodup ∧ (∀ g ∈ F, w.heap.size ≤ g) ∧ w.grownBy w' none
def EqC {α : Type} (f : Nat) (Q : World → Value → α → Prop) (sz : α → Nat) : Prop :=
  ∀ (w : World) (u u' : Value) (a : α), Q w u a → Q w u' a → sz a ≤ 1048576 → Calls Try.prog f #[u, u'] w fun e w' => e = .returned (.bool true) ∧ w.grownBy w' none
def MarkC {α : Type} (f : Nat) (P : World → Value → α → List Nat → Prop) (mk : α → Int → α) (cnt sz : α → Nat) : Prop :=
  ∀ (w : World) (u : Value) (a : α) (F : List Nat) (k : Int), P w u a F → F.Nodup → sz a ≤ 1048576 → 0 ≤ k → k + cnt a ≤ 16777216 → Calls Try.prog f #[u, .int .i64 k] w fun e w' => e = .returned (.int .i64 (k + cnt a)) ∧ P w' u (mk a k) F ∧ Wr F w w'
def HeldC {α : Type} (f : Nat) (Q : World → Value → α → Prop) (mk : α → Int → α) (cnt sz : α → Nat) : Prop :=
  ∀ (w : World) (u : Value) (a : α) (k : Int), Q w u (mk a k) → sz a ≤ 1048576 → 0 ≤ k → k + cnt a ≤ 16777216 → Calls Try.prog f #[u, .int .i64 k] w fun e w' => e = .returned (.int .i64 (k + cnt a)) ∧ w.grownBy w' none
/-- How much there is, as the laws count it: within what is left, or not. -/
def SzC {α : Type} (f : Nat) (Q : World → Value → α → Prop) (sz : α → Nat) : Prop :=
  ∀ (w : World) (u : Value) (a : α) (left : Nat), Q w u a → left ≤ 1048576 → Calls Try.prog f #[u, .int .i64 left] w fun e w' => e = .returned (.int .i64 (if sz a ≤ left then (left : Int) - sz a else -1)) ∧ w' = w

/-- What came in is no longer than a slice can be. -/
def RdZ {β : Type} (Q : World → Value → List β → Prop) (w : World) (v : Value) (L : List β) : Prop := Q w v L ∧ L.length ≤ maxLen

def sumN : List Nat → Nat
  | [] => 0
  | x :: r => x + sumN r
theorem sumN_append : ∀ a b : List Nat, sumN (a ++ b) = sumN a + sumN b
  | [], b => by simp [sumN]
  | x :: r, b => by simp [sumN, sumN_append r b]; omega
def cntR {α : Type} (cnt : α → Nat) (L : List α) : Nat := sumN (L.map cnt)
def szR {α : Type} (sz : α → Nat) (L : List α) : Nat := L.length + sumN (L.map sz)
def mkR {α : Type} (mk : α → Int → α) (cnt : α → Nat) : List α → Int → List α
  | [], _ => []
  | a :: r, k => mk a k :: mkR mk cnt r (k + cnt a)
theorem mkR_len {α : Type} (mk : α → Int → α) (cnt : α → Nat) : ∀ (L : List α) (k : Int), (mkR mk cnt L k).length = L.length
  | [], _ => rfl
  | a :: r, k => by rw [mkR, List.length_cons, List.length_cons, mkR_len mk cnt r]
theorem take_next {α β : Type} (f : α → β) (L : List α) (i : Nat) (h : i < L.length) : (L.take (i + 1)).map f = (L.take i).map f ++ [f L[i]] := by
  rw [List.take_succ_eq_append_getElem h, List.map_append]; rfl
theorem cntR_next {α : Type} (cnt : α → Nat) (L : List α) (i : Nat) (h : i < L.length) : cntR cnt (L.take (i + 1)) = cntR cnt (L.take i) + cnt L[i] := by
  unfold cntR; rw [take_next cnt L i h, sumN_append]; simp [sumN]
theorem cntR_le {α : Type} (cnt : α → Nat) (L : List α) (i : Nat) : cntR cnt (L.take i) ≤ cntR cnt L := by
  have e : L.map cnt = (L.take i).map cnt ++ (L.drop i).map cnt := by rw [← List.map_append, List.take_append_drop]
  unfold cntR; rw [e, sumN_append]; omega
theorem cntR_all {α : Type} (cnt : α → Nat) (L : List α) : cntR cnt (L.take L.length) = cntR cnt L := by rw [List.take_length]
theorem szR_el {α : Type} (sz : α → Nat) (L : List α) (i : Nat) (h : i < L.length) : L.length ≤ szR sz L ∧ sz L[i] ≤ szR sz L := by
  have h1 := cntR_next sz L i h
  have h2 := cntR_le sz L (i + 1)
  have h3 : cntR sz L = sumN (L.map sz) := rfl
  unfold szR
  omega
theorem szR_len {α : Type} (sz : α → Nat) (L : List α) : L.length ≤ szR sz L := by unfold szR; omega
theorem mkR_at {α : Type} (mk : α → Int → α) (cnt : α → Nat) : ∀ (L : List α) (k : Int) (i : Nat) (h : i < L.length), (mkR mk cnt L k)[i]'(by rw [mkR_len]; exact h) = mk L[i] (k + cntR cnt (L.take i))
  | a :: r, k, 0, _ => by simp [mkR, cntR, sumN]
  | a :: r, k, i + 1, h => by
    have hi : i < r.length := by simpa using h
    have ih := mkR_at mk cnt r (k + cnt a) i hi
    have e : cntR cnt ((a :: r).take (i + 1)) = cnt a + cntR cnt (r.take i) := by simp [cntR, sumN]
    simp only [mkR, List.getElem_cons_succ, ih, e]
    congr 1
    omega
/-- So far marked. -/
def overR {α : Type} (mk : α → Int → α) (cnt : α → Nat) (L : List α) (k : Int) (i : Nat) : List α := mkR mk cnt (L.take i) k ++ L.drop i
theorem overR_len {α : Type} (mk : α → Int → α) (cnt : α → Nat) (L : List α) (k : Int) (i : Nat) (h : i ≤ L.length) : (overR mk cnt L k i).length = L.length := by
  unfold overR; rw [List.length_append, mkR_len, List.length_take, List.length_drop]; omega
theorem overR_at {α : Type} (mk : α → Int → α) (cnt : α → Nat) (L : List α) (k : Int) (i : Nat) (h : i < L.length) : (overR mk cnt L k i)[i]'(by rw [overR_len _ _ _ _ _ (by omega)]; exact h) = L[i] := by
  unfold overR
  rw [List.getElem_append_right (by rw [mkR_len, List.length_take]; omega)]
  simp only [mkR_len, List.length_take, List.getElem_drop]
  congr 1
  omega
theorem mkR_snoc {α : Type} (mk : α → Int → α) (cnt : α → Nat) : ∀ (A : List α) (b : α) (k : Int), mkR mk cnt (A ++ [b]) k = mkR mk cnt A k ++ [mk b (k + cntR cnt A)]
  | [], b, k => by simp [mkR, cntR, sumN]
  | a :: r, b, k => by
    rw [List.cons_append, mkR, mkR_snoc mk cnt r b, mkR, List.cons_append]
    have e : cntR cnt (a :: r) = cnt a + cntR cnt r := by simp [cntR, sumN]
    rw [e]
    congr 4
    omega
theorem overR_set {α : Type} (mk : α → Int → α) (cnt : α → Nat) (L : List α) (k : Int) (i : Nat) (h : i < L.length) : (overR mk cnt L k i).set i (mk L[i] (k + cntR cnt (L.take i))) = overR mk cnt L k (i + 1) := by
  unfold overR
  have hl : (mkR mk cnt (L.take i) k).length = i := by rw [mkR_len, List.length_take]; omega
  rw [List.set_append_right _ _ (by omega), hl, Nat.sub_self, List.drop_eq_getElem_cons h, List.set_cons_zero, List.take_succ_eq_append_getElem h, mkR_snoc, List.append_assoc]
  rfl
theorem overR_all {α : Type} (mk : α → Int → α) (cnt : α → Nat) (L : List α) (k : Int) : overR mk cnt L k L.length = mkR mk cnt L k := by unfold overR; rw [List.take_length, List.drop_length, List.append_nil]

/-- The numbers of a row. -/
def lenI (xs : List Int) : Nat := xs.length
def mkI (xs : List Int) (k : Int) : List Int := marks .i64 k xs.length

end Go.Proofs.Ytgknninkfdgebaa
