/-
  A region that calls twice and lays both answers, areas, into new cells: by an invariant over what is done.
-/
import Derived.Test.YtoeehfjbnbbijaaGeoImpl
import Derived.Test.YtoeehfjbnbbijaaRegionInv
namespace Go.Proofs.Ytoeehfjbnbbijaa
open Go.RowKit

def updA (v : Nat → Value) (d : Nat) (x : Value) : Nat → Value := fun i => if i = d then x else v i
theorem updA_same (v : Nat → Value) (d : Nat) (x : Value) : updA v d x d = x := by simp [updA]
theorem updA_other (v : Nat → Value) {d i : Nat} (x : Value) (h : i ≠ d) : updA v d x i = v i := by simp [updA, h]

/-- A new cell with an area in it, which is (a, b) where it has been laid. -/
def CellA (wx w : World) (v : Value) (laid : Prop) (a b : Int) : Prop := ∃ g, v = .pointer (some ⟨g, 0, none⟩) ∧ wx.heap.size ≤ g ∧ ∃ x y : Int, w.heap[g]? = some (.cells #[.int .i64 x, .int .i64 y] 98 (0, 0)) ∧ (laid → x = a ∧ y = b)
theorem CellA.grown {wx w w' : World} {v : Value} {laid laid' : Prop} {a b : Int} (h : CellA wx w v laid a b) (hg : w.grownBy w' none) (hl : laid' → laid) : CellA wx w' v laid' a b := by
  obtain ⟨g, e, h1, x, y, h2, h3⟩ := h
  exact ⟨g, e, h1, x, y, (hg.block g (Array.getElem?_eq_some_iff.1 h2).1 (by simp)).trans h2, fun q => h3 (hl q)⟩

/-- What holds while the region goes. -/
structure InvA (wx : World) (X : Array Value) (c a b a' b' : Int) (v : Nat → Value) (listed : Array Bool) (w : World) : Prop where
  grown : wx.grownBy w none
  d0 : doneAt listed 0 → v 7 = .agg X
  d1 : doneAt listed 1 → v 8 = .int .i64 c
  d2 : doneAt listed 2 → v 9 = .agg #[.int .i64 a, .int .i64 b]
  d3 : doneAt listed 3 → v 10 = .agg X
  d4 : doneAt listed 4 → v 11 = .agg #[.int .i64 a', .int .i64 b']
  d5 : doneAt listed 5 → CellA wx w (v 5) (doneAt listed 7) a b
  d6 : doneAt listed 6 → CellA wx w (v 6) (doneAt listed 8) a' b'
  ne : doneAt listed 5 → doneAt listed 6 → v 5 ≠ v 6
  o7 : doneAt listed 7 → doneAt listed 5
  o8 : doneAt listed 8 → doneAt listed 6

section
variable {wx w w' : World} {X : Array Value} {c a b a' b' : Int} {v : Nat → Value} {listed : Array Bool} {k : Nat}

def yieldA (X : Array Value) (c a b a' b' : Int) (x : Value) : Nat → Prop
  | 0 => x = .agg X
  | 1 => x = .int .i64 c
  | 2 => x = .agg #[.int .i64 a, .int .i64 b]
  | 3 => x = .agg X
  | 4 => x = .agg #[.int .i64 a', .int .i64 b']
  | _ => False

theorem InvA.step (h : InvA wx X c a b a' b' v listed w) (hi : k < listed.size) (hg : w.grownBy w' none) {x : Value} (hx : yieldA X c a b a' b' x k) : InvA wx X c a b a' b' (updA v (k + 7) x) (listed.setIfInBounds k true) w' := by
  have hk : k ≤ 4 := by
    by_cases h : k ≤ 4
    · exact h
    · exfalso
      have : 5 ≤ k := by omega
      match k, this, hx with
      | k + 5, _, hx => exact hx
  have dn : ∀ j, doneAt (listed.setIfInBounds k true) j → j = k ∨ doneAt listed j := fun j h => (doneAt_set hi).1 h
  have one : ∀ (j : Nat) (P : Value → Prop), (j = k → P x) → (doneAt listed j → P (v (j + 7))) → doneAt (listed.setIfInBounds k true) j → P (updA v (k + 7) x (j + 7)) := by
    intro j P h1 h2 h3
    by_cases e : j = k
    · subst e; rw [updA_same]; exact h1 rfl
    · rw [updA_other v x (by omega)]
      rcases dn j h3 with h | h
      · exact absurd h e
      · exact h2 h
  have far : ∀ j, 5 ≤ j → doneAt (listed.setIfInBounds k true) j → doneAt listed j := fun j hj h3 => by
    rcases dn j h3 with h | h
    · omega
    · exact h
  refine ⟨grown_trans h.grown hg, one 0 (fun u => u = .agg X) (fun e => by rw [← e] at hx; exact hx) h.d0, one 1 (fun u => u = .int .i64 c) (fun e => by rw [← e] at hx; exact hx) h.d1, one 2 (fun u => u = .agg #[.int .i64 a, .int .i64 b]) (fun e => by rw [← e] at hx; exact hx) h.d2, one 3 (fun u => u = .agg X) (fun e => by rw [← e] at hx; exact hx) h.d3, one 4 (fun u => u = .agg #[.int .i64 a', .int .i64 b']) (fun e => by rw [← e] at hx; exact hx) h.d4, fun q => ?_, fun q => ?_, fun q q' => ?_, fun q => (doneAt_set hi).2 (.inr (h.o7 (far 7 (by omega) q))), fun q => (doneAt_set hi).2 (.inr (h.o8 (far 8 (by omega) q)))⟩
  · rw [updA_other v x (by omega)]; exact (h.d5 (far 5 (by omega) q)).grown hg (far 7 (by omega))
  · rw [updA_other v x (by omega)]; exact (h.d6 (far 6 (by omega) q)).grown hg (far 8 (by omega))
  · rw [updA_other v x (by omega), updA_other v x (by omega)]; exact h.ne (far 5 (by omega) q) (far 6 (by omega) q')

theorem CellA.lt {laid : Prop} {u : Value} (h : CellA wx w u laid a b) : ∃ g, u = .pointer (some ⟨g, 0, none⟩) ∧ g < w.heap.size := by
  obtain ⟨g, e, _, x, y, h2, _⟩ := h
  exact ⟨g, e, (Array.getElem?_eq_some_iff.1 h2).1⟩

theorem InvA.alloc (h : InvA wx X c a b a' b' v listed w) (hi : k < listed.size) (hk : k = 5 ∨ k = 6) (hnd : ¬ doneAt listed k) :
    InvA wx X c a b a' b' (updA v k (.pointer (some ⟨w.heap.size, 0, none⟩))) (listed.setIfInBounds k true) (w.alloc (.cells #[.int .i64 0, .int .i64 0] 98)) := by
  have dn : ∀ j, j ≠ k → doneAt (listed.setIfInBounds k true) j → doneAt listed j := fun j hj h => by
    rcases (doneAt_set hi).1 h with h | h
    · exact absurd h hj
    · exact h
  have hg : w.grownBy (w.alloc (.cells #[.int .i64 0, .int .i64 0] 98)) none := World.grownBy_alloc _ _ none
  have new : ∀ (laid : Prop) (a b : Int), ¬ laid → CellA wx (w.alloc (.cells #[.int .i64 0, .int .i64 0] 98)) (.pointer (some ⟨w.heap.size, 0, none⟩)) laid a b := fun laid a b hl => ⟨w.heap.size, rfl, h.grown.size, 0, 0, heap_alloc_new _ _, fun q => absurd q hl⟩
  have o7 : doneAt (listed.setIfInBounds k true) 7 → doneAt (listed.setIfInBounds k true) 5 := fun q => (doneAt_set hi).2 (.inr (h.o7 (dn 7 (by omega) q)))
  have o8 : doneAt (listed.setIfInBounds k true) 8 → doneAt (listed.setIfInBounds k true) 6 := fun q => (doneAt_set hi).2 (.inr (h.o8 (dn 8 (by omega) q)))
  have h7 : ¬ doneAt listed (k + 2) := by
    rcases hk with rfl | rfl
    · exact fun q => hnd (h.o7 q)
    · exact fun q => hnd (h.o8 q)
  rcases hk with rfl | rfl
  · refine ⟨grown_trans h.grown hg, fun q => ?_, fun q => ?_, fun q => ?_, fun q => ?_, fun q => ?_, fun q => ?_, fun q => ?_, fun q q' => ?_, o7, o8⟩
    · rw [updA_other v _ (by omega)]; exact h.d0 (dn 0 (by omega) q)
    · rw [updA_other v _ (by omega)]; exact h.d1 (dn 1 (by omega) q)
    · rw [updA_other v _ (by omega)]; exact h.d2 (dn 2 (by omega) q)
    · rw [updA_other v _ (by omega)]; exact h.d3 (dn 3 (by omega) q)
    · rw [updA_other v _ (by omega)]; exact h.d4 (dn 4 (by omega) q)
    · rw [updA_same]; exact new _ _ _ (fun q => h7 (dn 7 (by omega) q))
    · rw [updA_other v _ (by omega)]; exact (h.d6 (dn 6 (by omega) q)).grown hg (dn 8 (by omega))
    · rw [updA_same, updA_other v _ (by omega)]
      obtain ⟨g, e, hlt⟩ := (h.d6 (dn 6 (by omega) q')).lt
      rw [e]; intro e'; simp at e'; first | done | omega
  · refine ⟨grown_trans h.grown hg, fun q => ?_, fun q => ?_, fun q => ?_, fun q => ?_, fun q => ?_, fun q => ?_, fun q => ?_, fun q q' => ?_, o7, o8⟩
    · rw [updA_other v _ (by omega)]; exact h.d0 (dn 0 (by omega) q)
    · rw [updA_other v _ (by omega)]; exact h.d1 (dn 1 (by omega) q)
    · rw [updA_other v _ (by omega)]; exact h.d2 (dn 2 (by omega) q)
    · rw [updA_other v _ (by omega)]; exact h.d3 (dn 3 (by omega) q)
    · rw [updA_other v _ (by omega)]; exact h.d4 (dn 4 (by omega) q)
    · rw [updA_other v _ (by omega)]; exact (h.d5 (dn 5 (by omega) q)).grown hg (dn 7 (by omega))
    · rw [updA_same]; exact new _ _ _ (fun q => h7 (dn 8 (by omega) q))
    · rw [updA_same, updA_other v _ (by omega)]
      obtain ⟨g, e, hlt⟩ := (h.d5 (dn 5 (by omega) q)).lt
      rw [e]; intro e'; simp at e'; first | done | omega

/-- Both cells of an area are written. -/
def putA (w : World) (g : Nat) (x y : Int) : World := (w.setCell ⟨g, 0, none⟩ (.int .i64 x)).setCell ⟨g, 1, none⟩ (.int .i64 y)
theorem putA_grown (w : World) (g : Nat) (x y : Int) : w.grownBy (putA w g x y) (some g) := grown_trans (grown_set _ _ _ _) (grown_set _ _ _ _)
theorem putA_at {g : Nat} {p q : Value} {t : TypeId} (x y : Int) (h : w.heap[g]? = some (.cells #[p, q] t (0, 0))) : (putA w g x y).heap[g]? = some (.cells #[.int .i64 x, .int .i64 y] t (0, 0)) :=
  heap_setCell_same _ _ 1 _ _ _ (heap_setCell_same _ _ 0 _ _ _ h)

theorem CellA.beside {u : Value} {laid laid' : Prop} {g : Nat} {x y : Int} (h : CellA wx w u laid a b) (hne : u ≠ .pointer (some ⟨g, 0, none⟩)) (hl : laid' → laid) : CellA wx (putA w g x y) u laid' a b := by
  obtain ⟨g', e, h1, p, q, h2, h3⟩ := h
  exact ⟨g', e, h1, p, q, ((putA_grown w g x y).block g' (Array.getElem?_eq_some_iff.1 h2).1 (by simp; intro e'; exact hne (by rw [e, e']))).trans h2, fun r => h3 (hl r)⟩

theorem InvA.store5 (h : InvA wx X c a b a' b' v listed w) (hi : 7 < listed.size) {g : Nat} (e : v 5 = .pointer (some ⟨g, 0, none⟩)) (h5 : doneAt listed 5) : InvA wx X c a b a' b' v (listed.setIfInBounds 7 true) (putA w g a b) := by
  have dn : ∀ j, j ≠ 7 → doneAt (listed.setIfInBounds 7 true) j → doneAt listed j := fun j hj h => by
    rcases (doneAt_set hi).1 h with h | h
    · exact absurd h hj
    · exact h
  obtain ⟨g', e', h1, p, q, h2, _⟩ := h.d5 h5
  obtain rfl : g = g' := by rw [e] at e'; simpa using e'
  refine ⟨grown_new h.grown (putA_grown w g a b) (fun g' e' => by simp at e'; omega), fun q => h.d0 (dn 0 (by omega) q), fun q => h.d1 (dn 1 (by omega) q), fun q => h.d2 (dn 2 (by omega) q), fun q => h.d3 (dn 3 (by omega) q), fun q => h.d4 (dn 4 (by omega) q),
    fun _ => ⟨g, e, h1, a, b, putA_at a b h2, fun _ => ⟨rfl, rfl⟩⟩, fun q => (h.d6 (dn 6 (by omega) q)).beside (fun e' => h.ne h5 (dn 6 (by omega) q) (by rw [e, e'])) (dn 8 (by omega)), fun q q' => h.ne (dn 5 (by omega) q) (dn 6 (by omega) q'), fun _ => (doneAt_set hi).2 (.inr h5), fun q => (doneAt_set hi).2 (.inr (h.o8 (dn 8 (by omega) q)))⟩

theorem InvA.store6 (h : InvA wx X c a b a' b' v listed w) (hi : 8 < listed.size) {g : Nat} (e : v 6 = .pointer (some ⟨g, 0, none⟩)) (h6 : doneAt listed 6) : InvA wx X c a b a' b' v (listed.setIfInBounds 8 true) (putA w g a' b') := by
  have dn : ∀ j, j ≠ 8 → doneAt (listed.setIfInBounds 8 true) j → doneAt listed j := fun j hj h => by
    rcases (doneAt_set hi).1 h with h | h
    · exact absurd h hj
    · exact h
  obtain ⟨g', e', h1, p, q, h2, _⟩ := h.d6 h6
  obtain rfl : g = g' := by rw [e] at e'; simpa using e'
  refine ⟨grown_new h.grown (putA_grown w g a' b') (fun g' e' => by simp at e'; omega), fun q => h.d0 (dn 0 (by omega) q), fun q => h.d1 (dn 1 (by omega) q), fun q => h.d2 (dn 2 (by omega) q), fun q => h.d3 (dn 3 (by omega) q), fun q => h.d4 (dn 4 (by omega) q),
    fun q => (h.d5 (dn 5 (by omega) q)).beside (fun e' => h.ne (dn 5 (by omega) q) h6 (by rw [e, e'])) (dn 7 (by omega)), fun _ => ⟨g, e, h1, a', b', putA_at a' b' h2, fun _ => ⟨rfl, rfl⟩⟩, fun q q' => h.ne (dn 5 (by omega) q) (dn 6 (by omega) q'), fun q => (doneAt_set hi).2 (.inr (h.o7 (dn 7 (by omega) q))), fun _ => (doneAt_set hi).2 (.inr h6)⟩
end

end Go.Proofs.Ytoeehfjbnbbijaa
