/-
  GeoRegion, GeoImpl2, GeoHas, GeoImpl3, GeoImpl4, GeoSpec2, CoefSpec.
-/
import Derived.Test.YtnbpfkeppogacaaGreatMAd

namespace Go.Proofs.YtnbpfkeppogacaaGreat
open Go.RowKit

def updA (v : Nat → Value) (d : Nat) (x : Value) : Nat → Value := fun i => if i = d then x else v i
theorem updA_same (v : Nat → Value) (d : Nat) (x : Value) : updA v d x d = x := by simp [updA]
theorem updA_other (v : Nat → Value) {d i : Nat} (x : Value) (h : i ≠ d) : updA v d x i = v i := by simp [updA, h]

/-- A new cell with an area in it, which is (a, b) where it has been laid. -/
def CellA (wx w : World) (v : Value) (laid : Prop) (a b : Int) : Prop := ∃ g, v = .pointer (some ⟨g, 0, none⟩) ∧ wx.heap.size ≤ g ∧ ∃ x y : Int, w.heap[g]? = some (.cells #[.int .i64 x, .int .i64 y] 126 (0, 0)) ∧ (laid → x = a ∧ y = b)
theorem CellA.grown {wx w w' : World} {v : Value} {laid laid' : Prop} {a b : Int} (h : CellA wx w v laid a b) (hg : w.grownBy w' none) (hl : laid' → laid) : CellA wx w' v laid' a b := by
  obtain ⟨g, e, h1, x, y, h2, h3⟩ := h
  exact ⟨g, e, h1, x, y, (hg.block g (Array.getElem?_eq_some_iff.1 h2).1 (by simp)).trans h2, fun q => h3 (hl q)⟩

/-- What holds while the region goes. -/
structure InvA (wx : World) (X : Array Value) (c a b a' b' : Int) (v : Nat → Value) (listed : Array Bool) (w : World) : Prop where
  grown : wx.grownBy w none
  d0 : doneAt listed 0 → v 7 = .agg X
  d1 : doneAt listed 1 → v 8 = .int .i64 c
  d2 : doneAt listed 2 → v 9 = .agg #[.int .i64 a, .int .i64 b]
  d3 : doneAt listed 3 → v 10 = .agg X
  d4 : doneAt listed 4 → v 11 = .agg #[.int .i64 a', .int .i64 b']
  d5 : doneAt listed 5 → CellA wx w (v 5) (doneAt listed 7) a b
  d6 : doneAt listed 6 → CellA wx w (v 6) (doneAt listed 8) a' b'
  ne : doneAt listed 5 → doneAt listed 6 → v 5 ≠ v 6
  o7 : doneAt listed 7 → doneAt listed 5
  o8 : doneAt listed 8 → doneAt listed 6

section
variable {wx w w' : World} {X : Array Value} {c a b a' b' : Int} {v : Nat → Value} {listed : Array Bool} {k : Nat}

def yieldA (X : Array Value) (c a b a' b' : Int) (x : Value) : Nat → Prop
  | 0 => x = .agg X
  | 1 => x = .int .i64 c
  | 2 => x = .agg #[.int .i64 a, .int .i64 b]
  | 3 => x = .agg X
  | 4 => x = .agg #[.int .i64 a', .int .i64 b']
  | _ => False

theorem InvA.step (h : InvA wx X c a b a' b' v listed w) (hi : k < listed.size) (hg : w.grownBy w' none) {x : Value} (hx : yieldA X c a b a' b' x k) : InvA wx X c a b a' b' (updA v (k + 7) x) (listed.setIfInBounds k true) w' := by
  have hk : k ≤ 4 := by
    by_cases h : k ≤ 4
    · exact h
    · exfalso
      have : 5 ≤ k := by omega
      match k, this, hx with
      | k + 5, _, hx => exact hx
  have dn : ∀ j, doneAt (listed.setIfInBounds k true) j → j = k ∨ doneAt listed j := fun j h => (doneAt_set hi).1 h
  have one : ∀ (j : Nat) (P : Value → Prop), (j = k → P x) → (doneAt listed j → P (v (j + 7))) → doneAt (listed.setIfInBounds k true) j → P (updA v (k + 7) x (j + 7)) := by
    intro j P h1 h2 h3
    by_cases e : j = k
    · subst e; rw [updA_same]; exact h1 rfl
    · rw [updA_other v x (by omega)]
      rcases dn j h3 with h | h
      · exact absurd h e
      · exact h2 h
  have far : ∀ j, 5 ≤ j → doneAt (listed.setIfInBounds k true) j → doneAt listed j := fun j hj h3 => by
    rcases dn j h3 with h | h
    · omega
    · exact h
  refine ⟨grown_trans h.grown hg, one 0 (fun u => u = .agg X) (fun e => by rw [← e] at hx; exact hx) h.d0, one 1 (fun u => u = .int .i64 c) (fun e => by rw [← e] at hx; exact hx) h.d1, one 2 (fun u => u = .agg #[.int .i64 a, .int .i64 b]) (fun e => by rw [← e] at hx; exact hx) h.d2, one 3 (fun u => u = .agg X) (fun e => by rw [← e] at hx; exact hx) h.d3, one 4 (fun u => u = .agg #[.int .i64 a', .int .i64 b']) (fun e => by rw [← e] at hx; exact hx) h.d4, fun q => ?_, fun q => ?_, fun q q' => ?_, fun q => (doneAt_set hi).2 (.inr (h.o7 (far 7 (by omega) q))), fun q => (doneAt_set hi).2 (.inr (h.o8 (far 8 (by omega) q)))⟩
  · rw [updA_other v x (by omega)]; exact (h.d5 (far 5 (by omega) q)).grown hg (far 7 (by omega))
  · rw [updA_other v x (by omega)]; exact (h.d6 (far 6 (by omega) q)).grown hg (far 8 (by omega))
  · rw [updA_other v x (by omega), updA_other v x (by omega)]; exact h.ne (far 5 (by omega) q) (far 6 (by omega) q')

theorem CellA.lt {laid : Prop} {u : Value} (h : CellA wx w u laid a b) : ∃ g, u = .pointer (some ⟨g, 0, none⟩) ∧ g < w.heap.size := by
  obtain ⟨g, e, _, x, y, h2, _⟩ := h
  exact ⟨g, e, (Array.getElem?_eq_some_iff.1 h2).1⟩

theorem InvA.alloc (h : InvA wx X c a b a' b' v listed w) (hi : k < listed.size) (hk : k = 5 ∨ k = 6) (hnd : ¬ doneAt listed k) :
    InvA wx X c a b a' b' (updA v k (.pointer (some ⟨w.heap.size, 0, none⟩))) (listed.setIfInBounds k true) (w.alloc (.cells #[.int .i64 0, .int .i64 0] 126)) := by
  have dn : ∀ j, j ≠ k → doneAt (listed.setIfInBounds k true) j → doneAt listed j := fun j hj h => by
    rcases (doneAt_set hi).1 h with h | h
    · exact absurd h hj
    · exact h
  have hg : w.grownBy (w.alloc (.cells #[.int .i64 0, .int .i64 0] 126)) none := World.grownBy_alloc _ _ none
  have new : ∀ (laid : Prop) (a b : Int), ¬ laid → CellA wx (w.alloc (.cells #[.int .i64 0, .int .i64 0] 126)) (.pointer (some ⟨w.heap.size, 0, none⟩)) laid a b := fun laid a b hl => ⟨w.heap.size, rfl, h.grown.size, 0, 0, heap_alloc_new _ _, fun q => absurd q hl⟩
  have o7 : doneAt (listed.setIfInBounds k true) 7 → doneAt (listed.setIfInBounds k true) 5 := fun q => (doneAt_set hi).2 (.inr (h.o7 (dn 7 (by omega) q)))
  have o8 : doneAt (listed.setIfInBounds k true) 8 → doneAt (listed.setIfInBounds k true) 6 := fun q => (doneAt_set hi).2 (.inr (h.o8 (dn 8 (by omega) q)))
  have h7 : ¬ doneAt listed (k + 2) := by
    rcases hk with rfl | rfl
    · exact fun q => hnd (h.o7 q)
    · exact fun q => hnd (h.o8 q)
  rcases hk with rfl | rfl
  · refine ⟨grown_trans h.grown hg, fun q => ?_, fun q => ?_, fun q => ?_, fun q => ?_, fun q => ?_, fun q => ?_, fun q => ?_, fun q q' => ?_, o7, o8⟩
    · rw [updA_other v _ (by omega)]; exact h.d0 (dn 0 (by omega) q)
    · rw [updA_other v _ (by omega)]; exact h.d1 (dn 1 (by omega) q)
    · rw [updA_other v _ (by omega)]; exact h.d2 (dn 2 (by omega) q)
    · rw [updA_other v _ (by omega)]; exact h.d3 (dn 3 (by omega) q)
    · rw [updA_other v _ (by omega)]; exact h.d4 (dn 4 (by omega) q)
    · rw [updA_same]; exact new _ _ _ (fun q => h7 (dn 7 (by omega) q))
    · rw [updA_other v _ (by omega)]; exact (h.d6 (dn 6 (by omega) q)).grown hg (dn 8 (by omega))
    · rw [updA_same, updA_other v _ (by omega)]
      obtain ⟨g, e, hlt⟩ := (h.d6 (dn 6 (by omega) q')).lt
      rw [e]; intro e'; simp at e'; first | done | omega
  · refine ⟨grown_trans h.grown hg, fun q => ?_, fun q => ?_, fun q => ?_, fun q => ?_, fun q => ?_, fun q => ?_, fun q => ?_, fun q q' => ?_, o7, o8⟩
    · rw [updA_other v _ (by omega)]; exact h.d0 (dn 0 (by omega) q)
    · rw [updA_other v _ (by omega)]; exact h.d1 (dn 1 (by omega) q)
    · rw [updA_other v _ (by omega)]; exact h.d2 (dn 2 (by omega) q)
    · rw [updA_other v _ (by omega)]; exact h.d3 (dn 3 (by omega) q)
    · rw [updA_other v _ (by omega)]; exact h.d4 (dn 4 (by omega) q)
    · rw [updA_other v _ (by omega)]; exact (h.d5 (dn 5 (by omega) q)).grown hg (dn 7 (by omega))
    · rw [updA_same]; exact new _ _ _ (fun q => h7 (dn 8 (by omega) q))
    · rw [updA_same, updA_other v _ (by omega)]
      obtain ⟨g, e, hlt⟩ := (h.d5 (dn 5 (by omega) q)).lt
      rw [e]; intro e'; simp at e'; first | done | omega

/-- Both cells of an area are written. -/
def putA (w : World) (g : Nat) (x y : Int) : World := (w.setCell ⟨g, 0, none⟩ (.int .i64 x)).setCell ⟨g, 1, none⟩ (.int .i64 y)
theorem putA_grown (w : World) (g : Nat) (x y : Int) : w.grownBy (putA w g x y) (some g) := grown_trans (grown_set _ _ _ _) (grown_set _ _ _ _)
theorem putA_at {g : Nat} {p q : Value} {t : TypeId} (x y : Int) (h : w.heap[g]? = some (.cells #[p, q] t (0, 0))) : (putA w g x y).heap[g]? = some (.cells #[.int .i64 x, .int .i64 y] t (0, 0)) :=
  heap_setCell_same _ _ 1 _ _ _ (heap_setCell_same _ _ 0 _ _ _ h)

theorem CellA.beside {u : Value} {laid laid' : Prop} {g : Nat} {x y : Int} (h : CellA wx w u laid a b) (hne : u ≠ .pointer (some ⟨g, 0, none⟩)) (hl : laid' → laid) : CellA wx (putA w g x y) u laid' a b := by
  obtain ⟨g', e, h1, p, q, h2, h3⟩ := h
  exact ⟨g', e, h1, p, q, ((putA_grown w g x y).block g' (Array.getElem?_eq_some_iff.1 h2).1 (by simp; intro e'; exact hne (by rw [e, e']))).trans h2, fun r => h3 (hl r)⟩

theorem InvA.store5 (h : InvA wx X c a b a' b' v listed w) (hi : 7 < listed.size) {g : Nat} (e : v 5 = .pointer (some ⟨g, 0, none⟩)) (h5 : doneAt listed 5) : InvA wx X c a b a' b' v (listed.setIfInBounds 7 true) (putA w g a b) := by
  have dn : ∀ j, j ≠ 7 → doneAt (listed.setIfInBounds 7 true) j → doneAt listed j := fun j hj h => by
    rcases (doneAt_set hi).1 h with h | h
    · exact absurd h hj
    · exact h
  obtain ⟨g', e', h1, p, q, h2, _⟩ := h.d5 h5
  obtain rfl : g = g' := by rw [e] at e'; simpa using e'
  refine ⟨grown_new h.grown (putA_grown w g a b) (fun g' e' => by simp at e'; omega), fun q => h.d0 (dn 0 (by omega) q), fun q => h.d1 (dn 1 (by omega) q), fun q => h.d2 (dn 2 (by omega) q), fun q => h.d3 (dn 3 (by omega) q), fun q => h.d4 (dn 4 (by omega) q),
    fun _ => ⟨g, e, h1, a, b, putA_at a b h2, fun _ => ⟨rfl, rfl⟩⟩, fun q => (h.d6 (dn 6 (by omega) q)).beside (fun e' => h.ne h5 (dn 6 (by omega) q) (by rw [e, e'])) (dn 8 (by omega)), fun q q' => h.ne (dn 5 (by omega) q) (dn 6 (by omega) q'), fun _ => (doneAt_set hi).2 (.inr h5), fun q => (doneAt_set hi).2 (.inr (h.o8 (dn 8 (by omega) q)))⟩

theorem InvA.store6 (h : InvA wx X c a b a' b' v listed w) (hi : 8 < listed.size) {g : Nat} (e : v 6 = .pointer (some ⟨g, 0, none⟩)) (h6 : doneAt listed 6) : InvA wx X c a b a' b' v (listed.setIfInBounds 8 true) (putA w g a' b') := by
  have dn : ∀ j, j ≠ 8 → doneAt (listed.setIfInBounds 8 true) j → doneAt listed j := fun j hj h => by
    rcases (doneAt_set hi).1 h with h | h
    · exact absurd h hj
    · exact h
  obtain ⟨g', e', h1, p, q, h2, _⟩ := h.d6 h6
  obtain rfl : g = g' := by rw [e] at e'; simpa using e'
  refine ⟨grown_new h.grown (putA_grown w g a' b') (fun g' e' => by simp at e'; omega), fun q => h.d0 (dn 0 (by omega) q), fun q => h.d1 (dn 1 (by omega) q), fun q => h.d2 (dn 2 (by omega) q), fun q => h.d3 (dn 3 (by omega) q), fun q => h.d4 (dn 4 (by omega) q),
    fun q => (h.d5 (dn 5 (by omega) q)).beside (fun e' => h.ne (dn 5 (by omega) q) h6 (by rw [e, e'])) (dn 7 (by omega)), fun _ => ⟨g, e, h1, a', b', putA_at a' b' h2, fun _ => ⟨rfl, rfl⟩⟩, fun q q' => h.ne (dn 5 (by omega) q) (dn 6 (by omega) q'), fun q => (doneAt_set hi).2 (.inr (h.o7 (dn 7 (by omega) q))), fun _ => (doneAt_set hi).2 (.inr h6)⟩
end

end Go.Proofs.YtnbpfkeppogacaaGreat

namespace Go.Proofs.YtnbpfkeppogacaaGreat
open Go.RowKit

def actP (X : Array Value) (c : Int) (rx : Nat) (v : Nat → Value) : Act := { tmps := #[.agg X, .int .i64 c, .pointer (some ⟨rx, 0, none⟩), undef, .pointer (some ⟨rx + 1, 0, none⟩), v 5, v 6, v 7, v 8, v 9, v 10, v 11, undef, undef, undef, undef, undef, undef, undef, undef, undef, undef, undef, undef, undef, undef, undef, undef, undef], defers := [] }

set_option maxRecDepth 20000 in
set_option maxHeartbeats 3200000 in
theorem plane (X : Array Value) (p wd ht rs : Int) (n : Nat) (C : Nat → Nat → Int) (hX : Fx X p wd ht rs n C) (mh mv : Int) (hg : Geo wd ht n C mh mv) (c : Nat) (hc : c < n) (u v : Int) (HU : Hid (upI (wd * C c 1) mh = u)) (HV : Hid (upI (ht * C c 2) mv = v)) (w : World) :
    Calls Tryz.prog 105 #[.agg X, .int .i64 c] w fun e w' => e = .returned (.agg #[.int .i64 u, .int .i64 v]) ∧ w.grownBy w' none := by
  have hs := hX.size
  have hn4 := hg.n4
  have F1 := hide (fun w => shares X p wd ht rs n C hX c (by omega) w)
  have F2 := hide (fun w => most X p wd ht rs n C hX hg.n4 mh mv hg.h0 hg.v0 w)
  have HX1 := hX.c1
  have HX2 := hX.c2
  obtain ⟨h1, h2⟩ : (1 ≤ C c 1 ∧ C c 1 ≤ 4) ∧ (1 ≤ C c 2 ∧ C c 2 ≤ 4) := ⟨hg.ch c hc, hg.cv c hc⟩
  have hmh := hg.hb
  have hmv := hg.vb
  have hwd := hg.wd
  have hht := hg.ht
  have P1 := mul_share (a := wd) ⟨hwd.1, by omega⟩ h1
  have P2 := mul_share (a := ht) ⟨hht.1, by omega⟩ h2
  obtain ⟨wx, hW0⟩ : ∃ wx, ((w.alloc (.cells X 91)).alloc (.cells #[.int .i64 0, .int .i64 0] 126)) = wx := ⟨_, rfl⟩
  have G0 : w.grownBy wx none := by rw [← hW0]; exact grown_alloc (grown_alloc (World.grownBy.refl _ _) _) _
  have b0 : wx.heap[w.heap.size]? = some (.cells X 91 (0, 0)) := by
    rw [← hW0, Below.heap_alloc _ _ _ (by simp)]
    exact heap_alloc_new w _
  have b1 : wx.heap[w.heap.size + 1]? = some (.cells #[.int .i64 0, .int .i64 0] 126 (0, 0)) := by
    rw [← hW0]
    have := heap_alloc_new (w.alloc (.cells X 91)) (.cells #[.int .i64 0, .int .i64 0] 126)
    simpa using this
  have hsz : wx.heap.size = w.heap.size + 2 := by rw [← hW0]; simp
  have HW := hide hW0
  have B0 := hide b0
  have B1 := hide b1
  have HG0 := hide G0
  clear hW0 b0 b1 G0
  clear hX hg
  go_enter Tryz.func105, Tryz.ntmps105
  go_wp2
  rw [unhide HW]
  clear HW
  generalize C c 1 = c1 at *
  generalize C c 2 = c2 at *
  have hw1 := i64_in (wd * c1) (by omega)
  have hw2 := i64_in (ht * c2) (by omega)
  refine wp_region_steps (fun listed a w' => ∃ v, a = actP X c w.heap.size v ∧ InvA wx X c c1 c2 mh mv v listed w') (by kernel_rfl) (by kernel_rfl) ?start ?steps ?done

  case start =>
    exact ⟨fun _ => undef, rfl, grown_drew (World.grownBy.refl _ _), fun h => absurd h (not_done_start _ _), fun h => absurd h (not_done_start _ _), fun h => absurd h (not_done_start _ _), fun h => absurd h (not_done_start _ _), fun h => absurd h (not_done_start _ _), fun h => absurd h (not_done_start _ _), fun h => absurd h (not_done_start _ _), fun h => absurd h (not_done_start _ _), fun h => absurd h (not_done_start _ _), fun h => absurd h (not_done_start _ _)⟩
  case steps =>
    have xB : ∀ w1, wx.grownBy w1 none → w1.heap[w.heap.size]? = some (.cells X 91 (0, 0)) := fun w1 g => (g.block w.heap.size (by omega) (by simp)).trans (unhide B0)
    refine ⟨?_, ?_⟩
    · rintro listed a w1 hi hnd hd ⟨v, rfl, hJ⟩ K hK
      unfold actP
      rw [if_pos (by rfl)]
      refine wp_load_mid 91 _ rfl w.heap.size 0 rfl X.toList _ (fun j u hu => by rw [cell_of_row w1 w.heap.size (0 + j) X _ (0, 0) (xB w1 hJ.grown)]; simpa using hu) Tryz.underlying91 rfl (by simp only [Array.length_toList]; rw [hs]; kernel_rfl) ?_
      exact hK.out _ _ ⟨_, rfl, hJ.step hi (World.grownBy.refl _ none) (x := .agg X) rfl⟩
    refine ⟨?_, ?_⟩
    · rintro listed a w1 hi hnd hd ⟨v, rfl, hJ⟩ K hK
      unfold actP
      go_simp
      exact hK.out _ _ ⟨_, rfl, hJ.step hi (World.grownBy.refl _ none) (x := .int .i64 c) rfl⟩
    refine ⟨?_, ?_⟩
    · rintro listed a w1 hi hnd hd ⟨v, rfl, hJ⟩ K hK
      have hd' : depsF listed [{ on := 0, ground := .data }, { on := 1, ground := .data }] := hd
      simp only [depsF, and_true] at hd'
      have e7 := hJ.d0 (hd'.1 (by rfl))
      have e8 := hJ.d1 (hd'.2 (by rfl))
      unfold actP
      rw [e7, e8]
      go_simp
      refine (unhide F1 w1).mono ?_
      rintro e w2 ⟨rfl, g2⟩
      exact hK.out _ _ ⟨updA v 9 _, (by simp [actP, updA, e7, e8]), hJ.step hi g2 rfl⟩
    refine ⟨?_, ?_⟩
    · rintro listed a w1 hi hnd hd ⟨v, rfl, hJ⟩ K hK
      unfold actP
      rw [if_pos (by rfl)]
      refine wp_load_mid 91 _ rfl w.heap.size 0 rfl X.toList _ (fun j u hu => by rw [cell_of_row w1 w.heap.size (0 + j) X _ (0, 0) (xB w1 hJ.grown)]; simpa using hu) Tryz.underlying91 rfl (by simp only [Array.length_toList]; rw [hs]; kernel_rfl) ?_
      exact hK.out _ _ ⟨_, rfl, hJ.step hi (World.grownBy.refl _ none) (x := .agg X) rfl⟩
    refine ⟨?_, ?_⟩
    · rintro listed a w1 hi hnd hd ⟨v, rfl, hJ⟩ K hK
      have hd' : depsF listed [{ on := 3, ground := .data }, { on := 2, ground := .chain }] := hd
      simp only [depsF, and_true] at hd'
      have e10 := hJ.d3 (hd'.1 (by rfl))
      unfold actP
      rw [e10]
      go_simp
      refine (unhide F2 w1).mono ?_
      rintro e w2 ⟨rfl, g2⟩
      exact hK.out _ _ ⟨updA v 11 _, (by simp [actP, updA, e10]), hJ.step hi g2 rfl⟩
    refine ⟨?_, ?_⟩
    · rintro listed a w1 hi hnd hd ⟨v, rfl, hJ⟩ K hK
      unfold actP
      go_simp
      exact hK.out _ _ ⟨_, rfl, hJ.alloc hi (.inl rfl) hnd⟩
    refine ⟨?_, ?_⟩
    · rintro listed a w1 hi hnd hd ⟨v, rfl, hJ⟩ K hK
      unfold actP
      go_simp
      exact hK.out _ _ ⟨_, rfl, hJ.alloc hi (.inr rfl) hnd⟩
    refine ⟨?_, ?_⟩
    · rintro listed a w1 hi hnd hd ⟨v, rfl, hJ⟩ K hK
      have d5 := depsF_mem hd { on := 5, ground := .data } (by simp) rfl
      have e9 := hJ.d2 (depsF_mem hd { on := 2, ground := .data } (by simp) rfl)
      obtain ⟨g, e5, hge, x, y, hb, _⟩ := hJ.d5 d5
      have cf := areaCells hb
      unfold actP
      rw [e5, e9]
      go_simp
      exact hK.out _ _ ⟨v, (by simp [actP, e5, e9]), hJ.store5 hi e5 d5⟩
    refine ⟨?_, trivial⟩
    · rintro listed a w1 hi hnd hd ⟨v, rfl, hJ⟩ K hK
      have d6 := depsF_mem hd { on := 6, ground := .data } (by simp) rfl
      have e11 := hJ.d4 (depsF_mem hd { on := 4, ground := .data } (by simp) rfl)
      obtain ⟨g, e6, hge, x, y, hb, _⟩ := hJ.d6 d6
      have cf := areaCells hb
      unfold actP
      rw [e6, e11]
      go_simp
      exact hK.out _ _ ⟨v, (by simp [actP, e6, e11]), hJ.store6 hi e6 d6⟩
  case done =>
    rintro listed a w1 hall ⟨v, rfl, hJ⟩
    obtain ⟨g5, e5, hge5, x5, y5, hb5, l5⟩ := hJ.d5 (hall 5 (by decide))
    obtain ⟨g6, e6, hge6, x6, y6, hb6, l6⟩ := hJ.d6 (hall 6 (by decide))
    obtain ⟨rfl, rfl⟩ := l5 (hall 7 (by decide))
    obtain ⟨rfl, rfl⟩ := l6 (hall 8 (by decide))
    have hB := (hJ.grown.block w.heap.size (by omega) (by simp)).trans (unhide B0)
    have hR := (hJ.grown.block (w.heap.size + 1) (by omega) (by simp)).trans (unhide B1)
    have gJ := hJ.grown
    have hne : g5 ≠ g6 := fun e => hJ.ne (hall 5 (by decide)) (hall 6 (by decide)) (by rw [e5, e6, e])
    unfold actP
    rw [e5, e6]
    clear hall hJ l5 l6 e5 e6
    generalize v 7 = v7
    generalize v 8 = v8
    generalize v 9 = v9
    generalize v 10 = v10
    generalize v 11 = v11
    clear v

    have cx1 : w1.cell? ⟨w.heap.size, 1, none⟩ = some (.int .i64 wd) := by rw [cell_of_row w1 _ 1 _ _ (0, 0) hB]; exact HX1
    have cx2 : w1.cell? ⟨w.heap.size, 2, none⟩ = some (.int .i64 ht) := by rw [cell_of_row w1 _ 2 _ _ (0, 0) hB]; exact HX2
    obtain ⟨c50, c51, _, _⟩ := areaCells hb5
    obtain ⟨c60, c61, _, _⟩ := areaCells hb6
    obtain ⟨cr0, cr1, f0, f1⟩ := areaCells hR
    clear hb5 hb6 hB F1 F2
    have KEEP : Hid (∀ u v, (putA w1 (w.heap.size + 1) u v).cell? ⟨w.heap.size, 1, none⟩ = some (.int .i64 wd) ∧ (putA w1 (w.heap.size + 1) u v).cell? ⟨w.heap.size, 2, none⟩ = some (.int .i64 ht) ∧ (putA w1 (w.heap.size + 1) u v).cell? ⟨g5, 0, none⟩ = some (.int .i64 x5) ∧ (putA w1 (w.heap.size + 1) u v).cell? ⟨g5, 1, none⟩ = some (.int .i64 y5) ∧ (putA w1 (w.heap.size + 1) u v).cell? ⟨g6, 0, none⟩ = some (.int .i64 x6) ∧ (putA w1 (w.heap.size + 1) u v).cell? ⟨g6, 1, none⟩ = some (.int .i64 y6)) := fun u v => ⟨(putA_grown _ _ _ _).cell cx1 (by simp), (putA_grown _ _ _ _).cell cx2 (by simp), (putA_grown _ _ _ _).cell c50 (by simp; omega), (putA_grown _ _ _ _).cell c51 (by simp; omega), (putA_grown _ _ _ _).cell c60 (by simp; omega), (putA_grown _ _ _ _).cell c61 (by simp; omega)⟩
    go_wp2
    go_region_held3 (fun w' => w'.cell? ⟨w.heap.size, 1, none⟩ = some (.int .i64 wd) ∧ w'.cell? ⟨w.heap.size, 2, none⟩ = some (.int .i64 ht) ∧ w'.cell? ⟨g5, 0, none⟩ = some (.int .i64 x5) ∧ w'.cell? ⟨g5, 1, none⟩ = some (.int .i64 y5) ∧ w'.cell? ⟨g6, 0, none⟩ = some (.int .i64 x6) ∧ w'.cell? ⟨g6, 1, none⟩ = some (.int .i64 y6)) (first | exact ⟨cx1, cx2, c50, c51, c60, c61⟩ | exact unhide KEEP _ _) (first | (go_at_call_of 104 (Value.int .i64 (wd * x5)); refine (divUp _ _ u (by omega) (by omega) HU _).mono ?_; rintro e w2 ⟨rfl, rfl⟩) | (go_at_call_of 104 (Value.int .i64 (ht * y5)); refine (divUp _ _ v (by omega) (by omega) HV _).mono ?_; rintro e w2 ⟨rfl, rfl⟩))
    go_wp2
    refine bodyPost_ret (v := .agg #[.int .i64 u, .int .i64 v]) (by simp [results, Tryz.results105, go_sem, cr0, cr1]) rfl ⟨rfl, ?_⟩
    exact grown_drew (grown_setNew (grown_setNew (grown_trans (unhide HG0) gJ) _ _ _ (by omega)) _ _ _ (by omega))

/-- Two numbers rounded up, laid into the answer. -/
theorem unitsOf_bounds {a m : Int} (ha : 1 ≤ a ∧ a ≤ 256) (hm : 1 ≤ m ∧ m ≤ 4) : 1 ≤ upI a (8 * m) ∧ upI a (8 * m) ≤ a := upI_pos ha.1 (by omega)

set_option maxRecDepth 20000 in
set_option maxHeartbeats 3200000 in
theorem units (X : Array Value) (p wd ht rs : Int) (n : Nat) (C : Nat → Nat → Int) (hX : Fx X p wd ht rs n C) (mh mv : Int) (hg : Geo wd ht n C mh mv) (u v : Int) (HU : Hid (upI wd (8 * mh) = u)) (HV : Hid (upI ht (8 * mv) = v)) (w : World) :
    Calls Tryz.prog 97 #[.agg X] w fun e w' => e = .returned (.agg #[.int .i64 u, .int .i64 v]) ∧ w.grownBy w' none := by
  have hs := hX.size
  have F2 := hide (fun w => most X p wd ht rs n C hX hg.n4 mh mv hg.h0 hg.v0 w)
  have HX1 := hX.c1
  have HX2 := hX.c2
  have hmh := hg.hb
  have hmv := hg.vb
  have hwd := hg.wd
  have hht := hg.ht
  obtain ⟨wx, hW0⟩ : ∃ wx, ((w.alloc (.cells X 91)).alloc (.cells #[.int .i64 0, .int .i64 0] 126)) = wx := ⟨_, rfl⟩
  have G0 : w.grownBy wx none := by rw [← hW0]; exact grown_alloc (grown_alloc (World.grownBy.refl _ _) _) _
  have b0 : wx.heap[w.heap.size]? = some (.cells X 91 (0, 0)) := by
    rw [← hW0, Below.heap_alloc _ _ _ (by simp)]
    exact heap_alloc_new w _
  have b1 : wx.heap[w.heap.size + 1]? = some (.cells #[.int .i64 0, .int .i64 0] 126 (0, 0)) := by
    rw [← hW0]
    have := heap_alloc_new (w.alloc (.cells X 91)) (.cells #[.int .i64 0, .int .i64 0] 126)
    simpa using this
  have hsz : wx.heap.size = w.heap.size + 2 := by rw [← hW0]; simp
  have HW := hide hW0
  have B0 := hide b0
  have B1 := hide b1
  have HG0 := hide G0
  clear hW0 b0 b1 G0
  clear hX hg
  have hw1 := i64_in (8 * mh) (by omega)
  have hw2 := i64_in (8 * mv) (by omega)
  have bB := unhide B0
  go_enter Tryz.func97, Tryz.ntmps97
  go_wp2_with (first | (rw [unhide HW]; refine wpList_load_row rfl 91 _ rfl w.heap.size rfl X 91 bB _ Tryz.underlying91 rfl (by rw [hs]; kernel_rfl) ?_))
  refine (unhide F2 wx).mono ?_
  rintro e w1 ⟨rfl, g1⟩
  obtain ⟨W2, hW2⟩ : ∃ W2, w1.alloc (.cells #[.int .i64 mh, .int .i64 mv] 126) = W2 := ⟨_, rfl⟩
  have g2 : wx.grownBy W2 none := by rw [← hW2]; exact grown_alloc g1 _
  have hb6 : W2.heap[w1.heap.size]? = some (.cells #[.int .i64 mh, .int .i64 mv] 126 (0, 0)) := by rw [← hW2]; exact heap_alloc_new _ _
  have hs1 := g1.size
  have hB := (g2.block w.heap.size (by omega) (by simp)).trans (unhide B0)
  have hR := (g2.block (w.heap.size + 1) (by omega) (by simp)).trans (unhide B1)
  have cx1 : W2.cell? ⟨w.heap.size, 1, none⟩ = some (.int .i64 wd) := by rw [cell_of_row W2 _ 1 _ _ (0, 0) hB]; exact HX1
  have cx2 : W2.cell? ⟨w.heap.size, 2, none⟩ = some (.int .i64 ht) := by rw [cell_of_row W2 _ 2 _ _ (0, 0) hB]; exact HX2
  obtain ⟨c60, c61, _, _⟩ := areaCells hb6
  obtain ⟨cr0, cr1, f0, f1⟩ := areaCells hR
  have KEEP : Hid (∀ u v, (putA W2 (w.heap.size + 1) u v).cell? ⟨w.heap.size, 1, none⟩ = some (.int .i64 wd) ∧ (putA W2 (w.heap.size + 1) u v).cell? ⟨w.heap.size, 2, none⟩ = some (.int .i64 ht) ∧ (putA W2 (w.heap.size + 1) u v).cell? ⟨w1.heap.size, 0, none⟩ = some (.int .i64 mh) ∧ (putA W2 (w.heap.size + 1) u v).cell? ⟨w1.heap.size, 1, none⟩ = some (.int .i64 mv)) := fun u v => ⟨(putA_grown _ _ _ _).cell cx1 (by simp), (putA_grown _ _ _ _).cell cx2 (by simp), (putA_grown _ _ _ _).cell c60 (by simp; omega), (putA_grown _ _ _ _).cell c61 (by simp; omega)⟩
  have HW2 := hide hW2
  clear hW2 hb6 hB F2 hR
  go_wp2
  rw [unhide HW2]
  clear HW2
  go_region_held3 (fun w' => w'.cell? ⟨w.heap.size, 1, none⟩ = some (.int .i64 wd) ∧ w'.cell? ⟨w.heap.size, 2, none⟩ = some (.int .i64 ht) ∧ w'.cell? ⟨w1.heap.size, 0, none⟩ = some (.int .i64 mh) ∧ w'.cell? ⟨w1.heap.size, 1, none⟩ = some (.int .i64 mv)) (first | exact ⟨cx1, cx2, c60, c61⟩ | exact unhide KEEP _ _) (first | (go_at_call_of 104 (Value.int .i64 wd); refine (divUp _ _ u (by omega) (by omega) HU _).mono ?_; rintro e w2 ⟨rfl, rfl⟩) | (go_at_call_of 104 (Value.int .i64 ht); refine (divUp _ _ v (by omega) (by omega) HV _).mono ?_; rintro e w2 ⟨rfl, rfl⟩))
  go_wp2
  refine bodyPost_ret (v := .agg #[.int .i64 u, .int .i64 v]) (by simp [results, Tryz.results97, go_sem, cr0, cr1]) rfl ⟨rfl, ?_⟩
  exact grown_drew (grown_setNew (grown_setNew (grown_trans (unhide HG0) g2) _ _ _ (by omega)) _ _ _ (by omega))

end Go.Proofs.YtnbpfkeppogacaaGreat

namespace Go.Proofs.YtnbpfkeppogacaaGreat
open Go.RowKit

theorem hasComp (X : Array Value) (p wd ht rs : Int) (n : Nat) (C : Nat → Nat → Int) (hX : Fx X p wd ht rs n C) (hn : n ≤ 4) (c : Int) (t : Bool) (HT : Hid (decide (0 ≤ c ∧ c ≤ (n : Int) - 1) = t)) (w : World) :
    Calls Tryz.prog 100 #[.agg X, .int .i64 c] w fun e w' => e = .returned (.bool t) ∧ w.grownBy w' none := by
  have hs := hX.size
  have h4 := hX.c4
  have h4' : X[4] = .int .i64 n := by rw [Array.getElem?_eq_getElem (by omega)] at h4; simpa using h4
  have hw := i64_in ((n : Int) - 1) (by omega)
  clear h4 hX
  go_enter Tryz.func100, Tryz.ntmps100
  go_wp2_with fail
  refine (inRange c 0 ((n : Int) - 1) t HT _).mono ?_
  rintro e w1 ⟨rfl, rfl⟩
  go_wp2
  go_ret
  exact ⟨rfl, grown_alloc (World.grownBy.refl _ _) _⟩

theorem hasComp_none (c : Int) (w : World) :
    Calls Tryz.prog 100 #[.agg #[.int .i64 0, .int .i64 0, .int .i64 0, .int .i64 0, .int .i64 0, .int .i64 0, .int .i64 0, .int .i64 0, .int .i64 0, .int .i64 0, .int .i64 0, .int .i64 0, .int .i64 0, .int .i64 0, .int .i64 0, .int .i64 0, .int .i64 0, .int .i64 0, .int .i64 0, .int .i64 0, .int .i64 0], .int .i64 c] w fun e w' => e = .returned (.bool false) ∧ w.grownBy w' none := by
  have HT : Hid (decide (0 ≤ c ∧ c ≤ (-1 : Int)) = false) := decide_eq_false (by omega)
  go_enter Tryz.func100, Tryz.ntmps100
  go_wp2_with fail
  refine (inRange c 0 (-1) false HT _).mono ?_
  rintro e w1 ⟨rfl, rfl⟩
  go_wp2
  go_ret
  exact ⟨rfl, grown_alloc (World.grownBy.refl _ _) _⟩

end Go.Proofs.YtnbpfkeppogacaaGreat

namespace Go.Proofs.YtnbpfkeppogacaaGreat
open Go.RowKit

def actB (X : Array Value) (c : Int) (rx : Nat) (v : Nat → Value) : Act := { tmps := #[.agg X, .int .i64 c, .pointer (some ⟨rx, 0, none⟩), undef, .pointer (some ⟨rx + 1, 0, none⟩), v 5, v 6, v 7, v 8, v 9, v 10, v 11, undef, undef, undef, undef, undef, undef, undef, undef, undef, undef, undef], defers := [] }

set_option maxRecDepth 20000 in
set_option maxHeartbeats 3200000 in
theorem needed (X : Array Value) (p wd ht rs : Int) (n : Nat) (C : Nat → Nat → Int) (hX : Fx X p wd ht rs n C) (mh mv : Int) (hg : Geo wd ht n C mh mv) (c : Nat) (hc : c < n) (a b u v : Int) (HA : Hid (upI (wd * C c 1) mh = a)) (HB : Hid (upI (ht * C c 2) mv = b)) (HU : Hid (upI a 8 = u)) (HV : Hid (upI b 8 = v)) (w : World) :
    Calls Tryz.prog 101 #[.agg X, .int .i64 c] w fun e w' => e = .returned (.agg #[.int .i64 u, .int .i64 v]) ∧ w.grownBy w' none := by
  have hs := hX.size
  have F2 := hide (fun w => plane X p wd ht rs n C hX mh mv hg c hc a b HA HB w)
  have ha : 1 ≤ a ∧ a ≤ 4096 := by
    have P1 := mul_share (a := wd) ⟨hg.wd.1, by have := hg.wd; omega⟩ (hg.ch c hc)
    have := upI_pos P1.1 hg.hb.1
    rw [unhide HA] at this; omega
  have hb : 1 ≤ b ∧ b ≤ 4096 := by
    have P1 := mul_share (a := ht) ⟨hg.ht.1, by have := hg.ht; omega⟩ (hg.cv c hc)
    have := upI_pos P1.1 hg.vb.1
    rw [unhide HB] at this; omega
  obtain ⟨wx, hW0⟩ : ∃ wx, ((w.alloc (.cells X 91)).alloc (.cells #[.int .i64 0, .int .i64 0] 126)) = wx := ⟨_, rfl⟩
  have G0 : w.grownBy wx none := by rw [← hW0]; exact grown_alloc (grown_alloc (World.grownBy.refl _ _) _) _
  have b0 : wx.heap[w.heap.size]? = some (.cells X 91 (0, 0)) := by
    rw [← hW0, Below.heap_alloc _ _ _ (by simp)]
    exact heap_alloc_new w _
  have b1 : wx.heap[w.heap.size + 1]? = some (.cells #[.int .i64 0, .int .i64 0] 126 (0, 0)) := by
    rw [← hW0]
    have := heap_alloc_new (w.alloc (.cells X 91)) (.cells #[.int .i64 0, .int .i64 0] 126)
    simpa using this
  have hsz : wx.heap.size = w.heap.size + 2 := by rw [← hW0]; simp
  have HW := hide hW0
  have B0 := hide b0
  have B1 := hide b1
  have HG0 := hide G0
  clear hW0 b0 b1 G0
  clear hX hg
  have bB := unhide B0
  go_enter Tryz.func101, Tryz.ntmps101
  go_wp2_with (first | (rw [unhide HW]; refine wpList_load_row rfl 91 _ rfl w.heap.size rfl X 91 bB _ Tryz.underlying91 rfl (by rw [hs]; kernel_rfl) ?_))
  refine (unhide F2 wx).mono ?_
  rintro e w1 ⟨rfl, g1⟩
  obtain ⟨W2, hW2⟩ : ∃ W2, w1.alloc (.cells #[.int .i64 a, .int .i64 b] 126) = W2 := ⟨_, rfl⟩
  have g2 : wx.grownBy W2 none := by rw [← hW2]; exact grown_alloc g1 _
  have hb6 : W2.heap[w1.heap.size]? = some (.cells #[.int .i64 a, .int .i64 b] 126 (0, 0)) := by rw [← hW2]; exact heap_alloc_new _ _
  have hs1 := g1.size
  have hR := (g2.block (w.heap.size + 1) (by omega) (by simp)).trans (unhide B1)
  obtain ⟨c60, c61, _, _⟩ := areaCells hb6
  obtain ⟨cr0, cr1, f0, f1⟩ := areaCells hR
  have KEEP : Hid (∀ u v, (putA W2 (w.heap.size + 1) u v).cell? ⟨w1.heap.size, 0, none⟩ = some (.int .i64 a) ∧ (putA W2 (w.heap.size + 1) u v).cell? ⟨w1.heap.size, 1, none⟩ = some (.int .i64 b)) := fun u v => ⟨(putA_grown _ _ _ _).cell c60 (by simp; omega), (putA_grown _ _ _ _).cell c61 (by simp; omega)⟩
  have HW2 := hide hW2
  clear hW2 hb6 F2 hR
  go_wp2
  rw [unhide HW2]
  clear HW2
  go_region_held3 (fun w' => w'.cell? ⟨w1.heap.size, 0, none⟩ = some (.int .i64 a) ∧ w'.cell? ⟨w1.heap.size, 1, none⟩ = some (.int .i64 b)) (first | exact ⟨c60, c61⟩ | exact unhide KEEP _ _) (first | (go_at_call_of 104 (Value.int .i64 a); refine (divUp _ _ u (by omega) (by omega) HU _).mono ?_; rintro e w2 ⟨rfl, rfl⟩) | (go_at_call_of 104 (Value.int .i64 b); refine (divUp _ _ v (by omega) (by omega) HV _).mono ?_; rintro e w2 ⟨rfl, rfl⟩))
  go_wp2
  refine bodyPost_ret (v := .agg #[.int .i64 u, .int .i64 v]) (by simp [results, Tryz.results101, go_sem, cr0, cr1]) rfl ⟨rfl, ?_⟩
  exact grown_drew (grown_setNew (grown_setNew (grown_trans (unhide HG0) g2) _ _ _ (by omega)) _ _ _ (by omega))

set_option maxRecDepth 20000 in
set_option maxHeartbeats 3200000 in
theorem blocks (X : Array Value) (p wd ht rs : Int) (n : Nat) (C : Nat → Nat → Int) (hX : Fx X p wd ht rs n C) (mh mv : Int) (hg : Geo wd ht n C mh mv) (c : Nat) (hc : c < n) (a b : Int) (HA : Hid (upI wd (8 * mh) = a)) (HB : Hid (upI ht (8 * mv) = b)) (w : World) :
    Calls Tryz.prog 81 #[.agg X, .int .i64 c] w fun e w' => e = .returned (.agg #[.int .i64 (C c 1 * a), .int .i64 (C c 2 * b)]) ∧ w.grownBy w' none := by
  have hs := hX.size
  have hn4 := hg.n4
  have F1 := hide (fun w => shares X p wd ht rs n C hX c (by omega) w)
  have F2 := hide (fun w => units X p wd ht rs n C hX mh mv hg a b HA HB w)
  obtain ⟨h1, h2⟩ : (1 ≤ C c 1 ∧ C c 1 ≤ 4) ∧ (1 ≤ C c 2 ∧ C c 2 ≤ 4) := ⟨hg.ch c hc, hg.cv c hc⟩
  have ha : 1 ≤ a ∧ a ≤ 256 := by
    have := upI_pos (d := 8 * mh) hg.wd.1 (by have := hg.hb; omega)
    have := hg.wd
    rw [unhide HA] at *; omega
  have hb : 1 ≤ b ∧ b ≤ 256 := by
    have := upI_pos (d := 8 * mv) hg.ht.1 (by have := hg.vb; omega)
    have := hg.ht
    rw [unhide HB] at *; omega
  have P1 := mul_share (a := a) ⟨ha.1, by omega⟩ h1
  have P2 := mul_share (a := b) ⟨hb.1, by omega⟩ h2
  obtain ⟨wx, hW0⟩ : ∃ wx, ((w.alloc (.cells X 91)).alloc (.cells #[.int .i64 0, .int .i64 0] 126)) = wx := ⟨_, rfl⟩
  have G0 : w.grownBy wx none := by rw [← hW0]; exact grown_alloc (grown_alloc (World.grownBy.refl _ _) _) _
  have b0 : wx.heap[w.heap.size]? = some (.cells X 91 (0, 0)) := by
    rw [← hW0, Below.heap_alloc _ _ _ (by simp)]
    exact heap_alloc_new w _
  have b1 : wx.heap[w.heap.size + 1]? = some (.cells #[.int .i64 0, .int .i64 0] 126 (0, 0)) := by
    rw [← hW0]
    have := heap_alloc_new (w.alloc (.cells X 91)) (.cells #[.int .i64 0, .int .i64 0] 126)
    simpa using this
  have hsz : wx.heap.size = w.heap.size + 2 := by rw [← hW0]; simp
  have HW := hide hW0
  have B0 := hide b0
  have B1 := hide b1
  have HG0 := hide G0
  clear hW0 b0 b1 G0
  clear hX hg
  go_enter Tryz.func81, Tryz.ntmps81
  go_wp2
  rw [unhide HW]
  clear HW
  generalize hE1 : C c 1 = c1 at *
  generalize hE2 : C c 2 = c2 at *
  have E1 := hide hE1
  have E2 := hide hE2
  clear hE1 hE2
  rw [Int.mul_comm a c1] at P1
  rw [Int.mul_comm b c2] at P2
  have hw1 := i64_in (c1 * a) (by omega)
  have hw2 := i64_in (c2 * b) (by omega)
  refine wp_region_steps (fun listed a' w' => ∃ v, a' = actB X c w.heap.size v ∧ InvA wx X c c1 c2 a b v listed w') (by kernel_rfl) (by kernel_rfl) ?start ?steps ?done

  case start =>
    exact ⟨fun _ => undef, rfl, grown_drew (World.grownBy.refl _ _), fun h => absurd h (not_done_start _ _), fun h => absurd h (not_done_start _ _), fun h => absurd h (not_done_start _ _), fun h => absurd h (not_done_start _ _), fun h => absurd h (not_done_start _ _), fun h => absurd h (not_done_start _ _), fun h => absurd h (not_done_start _ _), fun h => absurd h (not_done_start _ _), fun h => absurd h (not_done_start _ _), fun h => absurd h (not_done_start _ _)⟩
  case steps =>
    have xB : ∀ w1, wx.grownBy w1 none → w1.heap[w.heap.size]? = some (.cells X 91 (0, 0)) := fun w1 g => (g.block w.heap.size (by omega) (by simp)).trans (unhide B0)
    refine ⟨?_, ?_⟩
    · rintro listed a w1 hi hnd hd ⟨v, rfl, hJ⟩ K hK
      unfold actB
      rw [if_pos (by rfl)]
      refine wp_load_mid 91 _ rfl w.heap.size 0 rfl X.toList _ (fun j u hu => by rw [cell_of_row w1 w.heap.size (0 + j) X _ (0, 0) (xB w1 hJ.grown)]; simpa using hu) Tryz.underlying91 rfl (by simp only [Array.length_toList]; rw [hs]; kernel_rfl) ?_
      exact hK.out _ _ ⟨_, rfl, hJ.step hi (World.grownBy.refl _ none) (x := .agg X) rfl⟩
    refine ⟨?_, ?_⟩
    · rintro listed a w1 hi hnd hd ⟨v, rfl, hJ⟩ K hK
      unfold actB
      go_simp
      exact hK.out _ _ ⟨_, rfl, hJ.step hi (World.grownBy.refl _ none) (x := .int .i64 c) rfl⟩
    refine ⟨?_, ?_⟩
    · rintro listed a w1 hi hnd hd ⟨v, rfl, hJ⟩ K hK
      have hd' : depsF listed [{ on := 0, ground := .data }, { on := 1, ground := .data }] := hd
      simp only [depsF, and_true] at hd'
      have e7 := hJ.d0 (hd'.1 (by rfl))
      have e8 := hJ.d1 (hd'.2 (by rfl))
      unfold actB
      rw [e7, e8]
      go_simp
      refine (unhide F1 w1).mono ?_
      rintro e w2 ⟨rfl, g2⟩
      exact hK.out _ _ ⟨updA v 9 _, (by simp [actB, updA, e7, e8]), hJ.step hi g2 rfl⟩
    refine ⟨?_, ?_⟩
    · rintro listed a w1 hi hnd hd ⟨v, rfl, hJ⟩ K hK
      unfold actB
      rw [if_pos (by rfl)]
      refine wp_load_mid 91 _ rfl w.heap.size 0 rfl X.toList _ (fun j u hu => by rw [cell_of_row w1 w.heap.size (0 + j) X _ (0, 0) (xB w1 hJ.grown)]; simpa using hu) Tryz.underlying91 rfl (by simp only [Array.length_toList]; rw [hs]; kernel_rfl) ?_
      exact hK.out _ _ ⟨_, rfl, hJ.step hi (World.grownBy.refl _ none) (x := .agg X) rfl⟩
    refine ⟨?_, ?_⟩
    · rintro listed a w1 hi hnd hd ⟨v, rfl, hJ⟩ K hK
      have hd' : depsF listed [{ on := 3, ground := .data }, { on := 2, ground := .chain }] := hd
      simp only [depsF, and_true] at hd'
      have e10 := hJ.d3 (hd'.1 (by rfl))
      unfold actB
      rw [e10]
      go_simp
      refine (unhide F2 w1).mono ?_
      rintro e w2 ⟨rfl, g2⟩
      exact hK.out _ _ ⟨updA v 11 _, (by simp [actB, updA, e10]), hJ.step hi g2 rfl⟩
    refine ⟨?_, ?_⟩
    · rintro listed a w1 hi hnd hd ⟨v, rfl, hJ⟩ K hK
      unfold actB
      go_simp
      exact hK.out _ _ ⟨_, rfl, hJ.alloc hi (.inl rfl) hnd⟩
    refine ⟨?_, ?_⟩
    · rintro listed a w1 hi hnd hd ⟨v, rfl, hJ⟩ K hK
      unfold actB
      go_simp
      exact hK.out _ _ ⟨_, rfl, hJ.alloc hi (.inr rfl) hnd⟩
    refine ⟨?_, ?_⟩
    · rintro listed a w1 hi hnd hd ⟨v, rfl, hJ⟩ K hK
      have d5 := depsF_mem hd { on := 5, ground := .data } (by simp) rfl
      have e9 := hJ.d2 (depsF_mem hd { on := 2, ground := .data } (by simp) rfl)
      obtain ⟨g, e5, hge, x, y, hb, _⟩ := hJ.d5 d5
      have cf := areaCells hb
      unfold actB
      rw [e5, e9]
      go_simp
      exact hK.out _ _ ⟨v, (by simp [actB, e5, e9]), hJ.store5 hi e5 d5⟩
    refine ⟨?_, trivial⟩
    · rintro listed a w1 hi hnd hd ⟨v, rfl, hJ⟩ K hK
      have d6 := depsF_mem hd { on := 6, ground := .data } (by simp) rfl
      have e11 := hJ.d4 (depsF_mem hd { on := 4, ground := .data } (by simp) rfl)
      obtain ⟨g, e6, hge, x, y, hb, _⟩ := hJ.d6 d6
      have cf := areaCells hb
      unfold actB
      rw [e6, e11]
      go_simp
      exact hK.out _ _ ⟨v, (by simp [actB, e6, e11]), hJ.store6 hi e6 d6⟩
  case done =>
    rintro listed a w1 hall ⟨v, rfl, hJ⟩
    obtain ⟨g5, e5, hge5, x5, y5, hb5, l5⟩ := hJ.d5 (hall 5 (by decide))
    obtain ⟨g6, e6, hge6, x6, y6, hb6, l6⟩ := hJ.d6 (hall 6 (by decide))
    obtain ⟨rfl, rfl⟩ := l5 (hall 7 (by decide))
    obtain ⟨rfl, rfl⟩ := l6 (hall 8 (by decide))
    have hB := (hJ.grown.block w.heap.size (by omega) (by simp)).trans (unhide B0)
    have hR := (hJ.grown.block (w.heap.size + 1) (by omega) (by simp)).trans (unhide B1)
    have gJ := hJ.grown
    have hne : g5 ≠ g6 := fun e => hJ.ne (hall 5 (by decide)) (hall 6 (by decide)) (by rw [e5, e6, e])
    unfold actB
    rw [e5, e6]
    clear hall hJ l5 l6 e5 e6
    generalize v 7 = v7
    generalize v 8 = v8
    generalize v 9 = v9
    generalize v 10 = v10
    generalize v 11 = v11
    clear v

    obtain ⟨c50, c51, _, _⟩ := areaCells hb5
    obtain ⟨c60, c61, _, _⟩ := areaCells hb6
    obtain ⟨cr0, cr1, f0, f1⟩ := areaCells hR
    clear hb5 hb6 hB F1 F2
    go_wp2
    refine bodyPost_ret (v := .agg #[.int .i64 (x5 * x6), .int .i64 (y5 * y6)]) (by simp [results, Tryz.results81, go_sem, cr0, cr1]) rfl ⟨by rw [unhide E1, unhide E2], ?_⟩
    exact grown_setNew (grown_setNew (grown_trans (unhide HG0) gJ) _ _ _ (by omega)) _ _ _ (by omega)

end Go.Proofs.YtnbpfkeppogacaaGreat

namespace Go.Proofs.YtnbpfkeppogacaaGreat
open Go.RowKit

theorem fzOne : (#[.int .i64 0, .int .i64 0, .int .i64 0, .int .i64 0, .int .i64 0, .int .i64 0, .int .i64 0, .int .i64 0, .int .i64 0, .int .i64 0, .int .i64 0, .int .i64 0, .int .i64 0, .int .i64 0, .int .i64 0, .int .i64 0, .int .i64 0, .int .i64 0, .int .i64 0, .int .i64 0, .int .i64 0] : Array Value).all (·.oneCell') = true := by simp [Value.oneCell']

/-- The size of a component's plane, as both sides tell it. -/
def sizeG (b : Bool) (wd ht : Int) (n : Nat) (C : Nat → Nat → Int) (c : Int) : Int × Int :=
  if b && decide (0 ≤ c ∧ c ≤ (n : Int) - 1) then (upI (wd * C c.toNat 1) (mostA 1 C 1 n), upI (ht * C c.toNat 2) (mostA 1 C 2 n)) else (0, 0)
def blocksG (b : Bool) (wd ht : Int) (n : Nat) (C : Nat → Nat → Int) (c : Int) : Int × Int :=
  if b && decide (0 ≤ c ∧ c ≤ (n : Int) - 1) then (upI wd (8 * mostA 1 C 1 n) * C c.toNat 1, upI ht (8 * mostA 1 C 2 n) * C c.toNat 2) else (0, 0)

end Go.Proofs.YtnbpfkeppogacaaGreat

namespace Go.Proofs.YtnbpfkeppogacaaGreat
open Go.RowKit

set_option maxHeartbeats 1600000 in
theorem specUnits (p wd ht rs : Int) (ao : Option Addr) (n cap : Nat) (C : Nat → Nat → Int) (w : World) (hr : RdC w ao n C) (mh mv : Int) (hg : Geo wd ht n C mh mv) (u v : Int) (HU : Hid (upI wd (8 * mh) = u)) (HV : Hid (upI ht (8 * mv) = v)) :
    Calls Tryz.prog 59 #[.agg #[.int .i64 p, .int .i64 wd, .int .i64 ht, .int .i64 rs, .slice ao n cap]] w fun e w' => e = .returned (.tuple #[.int .i64 u, .int .i64 v]) ∧ w.grownBy w' none := by
  have G0 : Hid (w.grownBy (w.alloc (.cells #[.int .i64 p, .int .i64 wd, .int .i64 ht, .int .i64 rs, .slice ao n cap] 37)) none) := grown_alloc (World.grownBy.refl _ _) _
  have HB := hide (heap_alloc_new w (.cells #[.int .i64 p, .int .i64 wd, .int .i64 ht, .int .i64 rs, .slice ao n cap] 37))
  have hgs : w.heap.size < (w.alloc (.cells #[.int .i64 p, .int .i64 wd, .int .i64 ht, .int .i64 rs, .slice ao n cap] 37)).heap.size := by simp
  have HR := hide (hr.grown (unhide G0))
  clear hr
  have hn4 := hg.n4
  have hmh := hg.hb
  have hmv := hg.vb
  have hwd := hg.wd
  have hht := hg.ht
  have H1 := hide hg.h1
  have H2 := hide hg.v1
  have hw1 := i64_in (8 * mh) (by omega)
  have hw2 := i64_in (8 * mv) (by omega)
  clear hg
  go_enter Tryz.func59, Tryz.ntmps59
  go_wp2_with fail
  refine (specMost p wd ht rs ao n cap C _ (unhide HR) (by omega) mh mv (unhide H1) (unhide H2)).mono ?_
  generalize (w.alloc (.cells #[.int .i64 p, .int .i64 wd, .int .i64 ht, .int .i64 rs, .slice ao n cap] 37)) = wx at *
  rintro e w1 ⟨rfl, g1⟩
  obtain ⟨_, cf1, cf2, _, _⟩ := frameCells' ((g1.block w.heap.size hgs (by simp)).trans (unhide HB))
  go_wp2
  go_region_held3 (fun w' => w'.cell? ⟨w.heap.size, 1, none⟩ = some (.int .i64 wd) ∧ w'.cell? ⟨w.heap.size, 2, none⟩ = some (.int .i64 ht)) (exact ⟨cf1, cf2⟩) (first | (go_at_call_of 72 (Value.int .i64 wd); refine (specUp _ _ u (by omega) (by omega) HU _).mono ?_; rintro e w2 ⟨rfl, rfl⟩) | (go_at_call_of 72 (Value.int .i64 ht); refine (specUp _ _ v (by omega) (by omega) HV _).mono ?_; rintro e w2 ⟨rfl, rfl⟩))
  all_goals
    go_wp2
    refine bodyPost_ret (v := .tuple #[.int .i64 u, .int .i64 v]) (by simp [results, Tryz.results59, go_sem]) rfl ⟨rfl, grown_drew (grown_trans (unhide G0) g1)⟩

set_option maxHeartbeats 1600000 in
theorem specSize (p wd ht rs : Int) (ao : Option Addr) (n cap : Nat) (C : Nat → Nat → Int) (w : World) (hr : RdC w ao n C) (mh mv : Int) (hg : Geo wd ht n C mh mv) (c : Nat) (hc : c < n) (u v : Int) (HU : Hid (upI (wd * C c 1) mh = u)) (HV : Hid (upI (ht * C c 2) mv = v)) :
    Calls Tryz.prog 73 #[.agg #[.int .i64 p, .int .i64 wd, .int .i64 ht, .int .i64 rs, .slice ao n cap], .int .i64 c] w fun e w' => e = .returned (.tuple #[.int .i64 u, .int .i64 v]) ∧ w.grownBy w' none := by
  have G0 : Hid (w.grownBy (w.alloc (.cells #[.int .i64 p, .int .i64 wd, .int .i64 ht, .int .i64 rs, .slice ao n cap] 37)) none) := grown_alloc (World.grownBy.refl _ _) _
  have HB := hide (heap_alloc_new w (.cells #[.int .i64 p, .int .i64 wd, .int .i64 ht, .int .i64 rs, .slice ao n cap] 37))
  have hgs : w.heap.size < (w.alloc (.cells #[.int .i64 p, .int .i64 wd, .int .i64 ht, .int .i64 rs, .slice ao n cap] 37)).heap.size := by simp
  have HR := hide (hr.grown (unhide G0))
  clear hr
  have hn4 := hg.n4
  have hmh := hg.hb
  have hmv := hg.vb
  have hwd := hg.wd
  have hht := hg.ht
  have H1 := hide hg.h1
  have H2 := hide hg.v1
  have P1 := mul_share (a := wd) ⟨hwd.1, by omega⟩ (hg.ch c hc)
  have P2 := mul_share (a := ht) ⟨hht.1, by omega⟩ (hg.cv c hc)
  have hw1 := i64_in (wd * C c 1) (by omega)
  have hw2 := i64_in (ht * C c 2) (by omega)
  have hc0 : (0 : Int) ≤ (c : Int) := by omega
  have hc1 : (c : Int) < (n : Int) := by omega
  clear hg
  go_enter Tryz.func73, Tryz.ntmps73
  go_wp2_with fail
  refine (specMost p wd ht rs ao n cap C _ (unhide HR) (by omega) mh mv (unhide H1) (unhide H2)).mono ?_
  generalize (w.alloc (.cells #[.int .i64 p, .int .i64 wd, .int .i64 ht, .int .i64 rs, .slice ao n cap] 37)) = wx at *
  rintro e w1 ⟨rfl, g1⟩
  obtain ⟨_, cf1, cf2, _, cf4⟩ := frameCells' ((g1.block w.heap.size hgs (by simp)).trans (unhide HB))
  obtain ⟨bb, off, rfl, hcc⟩ := ((unhide HR).grown g1) c hc
  have x1 := hcc 1 (by omega)
  have x2 := hcc 2 (by omega)
  clear hcc
  go_wp2
  go_region_held3 (fun w' => w'.cell? ⟨w.heap.size, 1, none⟩ = some (.int .i64 wd) ∧ w'.cell? ⟨w.heap.size, 2, none⟩ = some (.int .i64 ht) ∧ w'.cell? ⟨w.heap.size, 4, none⟩ = some (.slice (some ⟨bb, off, none⟩) n cap) ∧ w'.cell? ⟨bb, off + c * 4 + 1, none⟩ = some (.int .i64 (C c 1)) ∧ w'.cell? ⟨bb, off + c * 4 + 2, none⟩ = some (.int .i64 (C c 2))) (exact ⟨cf1, cf2, cf4, x1, x2⟩) (first | (go_at_call_of 72 (Value.int .i64 (wd * C c 1)); refine (specUp _ _ u (by omega) (by omega) HU _).mono ?_; rintro e w2 ⟨rfl, rfl⟩) | (go_at_call_of 72 (Value.int .i64 (ht * C c 2)); refine (specUp _ _ v (by omega) (by omega) HV _).mono ?_; rintro e w2 ⟨rfl, rfl⟩))
  all_goals
    go_wp2
    refine bodyPost_ret (v := .tuple #[.int .i64 u, .int .i64 v]) (by simp [results, Tryz.results73, go_sem]) rfl ⟨rfl, grown_drew (grown_trans (unhide G0) g1)⟩

set_option maxHeartbeats 1600000 in
theorem specBlocks (p wd ht rs : Int) (ao : Option Addr) (n cap : Nat) (C : Nat → Nat → Int) (w : World) (hr : RdC w ao n C) (mh mv : Int) (hg : Geo wd ht n C mh mv) (c : Nat) (hc : c < n) (a b : Int) (HA : Hid (upI wd (8 * mh) = a)) (HB' : Hid (upI ht (8 * mv) = b)) :
    Calls Tryz.prog 38 #[.agg #[.int .i64 p, .int .i64 wd, .int .i64 ht, .int .i64 rs, .slice ao n cap], .int .i64 c] w fun e w' => e = .returned (.tuple #[.int .i64 (a * C c 1), .int .i64 (b * C c 2)]) ∧ w.grownBy w' none := by
  have G0 : Hid (w.grownBy (w.alloc (.cells #[.int .i64 p, .int .i64 wd, .int .i64 ht, .int .i64 rs, .slice ao n cap] 37)) none) := grown_alloc (World.grownBy.refl _ _) _
  have HB := hide (heap_alloc_new w (.cells #[.int .i64 p, .int .i64 wd, .int .i64 ht, .int .i64 rs, .slice ao n cap] 37))
  have hgs : w.heap.size < (w.alloc (.cells #[.int .i64 p, .int .i64 wd, .int .i64 ht, .int .i64 rs, .slice ao n cap] 37)).heap.size := by simp
  have HR := hide (hr.grown (unhide G0))
  clear hr
  have hn4 := hg.n4
  have HG := hide hg
  have ha : 1 ≤ a ∧ a ≤ 256 := by
    have := upI_pos (d := 8 * mh) hg.wd.1 (by have := hg.hb; omega)
    have := hg.wd
    rw [unhide HA] at *; omega
  have hb : 1 ≤ b ∧ b ≤ 256 := by
    have := upI_pos (d := 8 * mv) hg.ht.1 (by have := hg.vb; omega)
    have := hg.ht
    rw [unhide HB'] at *; omega
  have P1 := mul_share (a := a) ⟨ha.1, by omega⟩ (hg.ch c hc)
  have P2 := mul_share (a := b) ⟨hb.1, by omega⟩ (hg.cv c hc)
  have hw1 := i64_in (a * C c 1) (by omega)
  have hw2 := i64_in (b * C c 2) (by omega)
  have hc0 : (0 : Int) ≤ (c : Int) := by omega
  have hc1 : (c : Int) < (n : Int) := by omega
  clear hg
  go_enter Tryz.func38, Tryz.ntmps38
  go_wp2_with fail
  refine (specUnits p wd ht rs ao n cap C _ (unhide HR) mh mv (unhide HG) a b HA HB').mono ?_
  generalize (w.alloc (.cells #[.int .i64 p, .int .i64 wd, .int .i64 ht, .int .i64 rs, .slice ao n cap] 37)) = wx at *
  rintro e w1 ⟨rfl, g1⟩
  obtain ⟨_, _, _, _, cf4⟩ := frameCells' ((g1.block w.heap.size hgs (by simp)).trans (unhide HB))
  obtain ⟨bb, off, rfl, hcc⟩ := ((unhide HR).grown g1) c hc
  have x1 := hcc 1 (by omega)
  have x2 := hcc 2 (by omega)
  clear hcc
  go_wp2
  go_region_held3 (fun w' => w'.cell? ⟨w.heap.size, 4, none⟩ = some (.slice (some ⟨bb, off, none⟩) n cap) ∧ w'.cell? ⟨bb, off + c * 4 + 1, none⟩ = some (.int .i64 (C c 1)) ∧ w'.cell? ⟨bb, off + c * 4 + 2, none⟩ = some (.int .i64 (C c 2))) (exact ⟨cf4, x1, x2⟩) (fail)
  all_goals
    go_wp2
    refine bodyPost_ret (v := .tuple #[.int .i64 (a * C c 1), .int .i64 (b * C c 2)]) (by simp [results, Tryz.results38, go_sem]) rfl ⟨rfl, grown_drew (grown_trans (unhide G0) g1)⟩

end Go.Proofs.YtnbpfkeppogacaaGreat

namespace Go.Proofs.YtnbpfkeppogacaaGreat
open Go.RowKit

theorem specLevel (ao : Option Addr) (n cap : Nat) (zs : List Int) (w : World) (hr : Rd .i64 w ao n zs) (b : Bool) (hb : Hid (levB (-16383) 16383 zs = b)) :
    Calls Tryz.prog 39 #[.slice ao n cap] w fun e w' => e = .returned (.bool b) ∧ w.grownBy w' none := by
  have HR := hide hr
  clear hr
  go_enter Tryz.func39, Tryz.ntmps39
  go_wp2_with fail
  refine (specLev ao n cap zs _ _ _ (unhide HR) b hb).mono ?_
  rintro e w1 ⟨rfl, g1⟩
  have HG := hide g1
  clear g1
  go_wp2
  go_ret
  exact ⟨rfl, unhide HG⟩

set_option maxHeartbeats 1600000 in
theorem specNeed (p wd ht rs : Int) (ao : Option Addr) (n cap : Nat) (C : Nat → Nat → Int) (w : World) (hr : RdC w ao n C) (hg : Geo wd ht n C (mostA 1 C 1 n) (mostA 1 C 2 n)) (c : Nat) (hc : c < n) :
    Calls Tryz.prog 60 #[.agg #[.int .i64 p, .int .i64 wd, .int .i64 ht, .int .i64 rs, .slice ao n cap], .int .i64 c] w fun e w' => e = .returned (.tuple #[.int .i64 (nwG wd n C c : Int), .int .i64 (nhG ht n C c : Int)]) ∧ w.grownBy w' none := by
  have hd := dims_of hg c hc
  have G0 : w.grownBy (w.alloc (.cells #[.int .i64 p, .int .i64 wd, .int .i64 ht, .int .i64 rs, .slice ao n cap] 37)) none := grown_alloc (World.grownBy.refl _ _) _
  have HT := hide (specSize p wd ht rs ao n cap C _ (hr.grown G0) _ _ hg c hc _ _ rfl rfl)
  have hsw := hd.sw
  have hsh := hd.sh
  have HNW : Hid (upI (upI (wd * C c 1) (mostA 1 C 1 n)) 8 = (nwG wd n C c : Int)) := hd.nw
  have HNH : Hid (upI (upI (ht * C c 2) (mostA 1 C 2 n)) 8 = (nhG ht n C c : Int)) := hd.nh
  have HG0 := hide G0
  clear hr hg hd G0
  generalize upI (wd * C c 1) (mostA 1 C 1 n) = sw at *
  generalize upI (ht * C c 2) (mostA 1 C 2 n) = sh at *
  generalize (nwG wd n C c : Int) = nw at *
  generalize (nhG ht n C c : Int) = nh at *
  go_enter Tryz.func60, Tryz.ntmps60
  go_wp2_with fail
  refine (unhide HT).mono ?_
  rintro e w1 ⟨rfl, g1⟩
  have HG1 := hide (grown_trans (unhide HG0) g1)
  clear g1 HT
  go_wp2_with fail
  refine (specUp sw 8 nw (by omega) (by omega) HNW _).mono ?_
  rintro e w2 ⟨rfl, rfl⟩
  go_wp2_with fail
  refine (specUp sh 8 nh (by omega) (by omega) HNH _).mono ?_
  rintro e w3 ⟨rfl, rfl⟩
  go_wp2
  go_ret2
  exact ⟨rfl, unhide HG1⟩

set_option maxHeartbeats 1600000 in
theorem specHidden (p wd ht rs : Int) (ao : Option Addr) (n cap : Nat) (C : Nat → Nat → Int) (w : World) (hr : RdC w ao n C) (hg : Geo wd ht n C (mostA 1 C 1 n) (mostA 1 C 2 n)) (c : Nat) (hc : c < n) (ro cl : Int) (b : Bool) (HB : Hid (hiddenI wd ht n C c ro cl = b)) :
    Calls Tryz.prog 40 #[.agg #[.int .i64 p, .int .i64 wd, .int .i64 ht, .int .i64 rs, .slice ao n cap], .agg #[.int .i64 c, .int .i64 ro, .int .i64 cl]] w fun e w' => e = .returned (.bool b) ∧ w.grownBy w' none := by
  have G0 : w.grownBy ((w.alloc (.cells #[.int .i64 p, .int .i64 wd, .int .i64 ht, .int .i64 rs, .slice ao n cap] 37)).alloc (.cells #[.int .i64 c, .int .i64 ro, .int .i64 cl] 80)) none := grown_alloc (grown_alloc (World.grownBy.refl _ _) _) _
  have HT := hide (specNeed p wd ht rs ao n cap C _ (hr.grown G0) hg c hc)
  have HBX : Hid (((w.alloc (.cells #[.int .i64 p, .int .i64 wd, .int .i64 ht, .int .i64 rs, .slice ao n cap] 37)).alloc (.cells #[.int .i64 c, .int .i64 ro, .int .i64 cl] 80)).heap[w.heap.size + 1]? = some (.cells #[.int .i64 c, .int .i64 ro, .int .i64 cl] 80 (0, 0))) := by
    have := heap_alloc_new (w.alloc (.cells #[.int .i64 p, .int .i64 wd, .int .i64 ht, .int .i64 rs, .slice ao n cap] 37)) (.cells #[.int .i64 c, .int .i64 ro, .int .i64 cl] 80)
    unfold Hid
    simpa using this
  have HG0 := hide G0
  have HBE : Hid ((decide ((nhG ht n C c : Int) ≤ ro) || decide ((nwG wd n C c : Int) ≤ cl)) = b) := HB
  clear hr hg G0 HB
  generalize (nwG wd n C c : Int) = nw at *
  generalize (nhG ht n C c : Int) = nh at *
  go_enter Tryz.func40, Tryz.ntmps40
  go_wp2_with fail
  refine (unhide HT).mono ?_
  rintro e w1 ⟨rfl, g1⟩
  have hb1 := grown_atT g1 (unhide HBX) (by simp)
  have c1 : w1.cell? ⟨w.heap.size + 1, 1, none⟩ = some (.int .i64 ro) := by rw [cell_of_row w1 _ 1 _ _ (0, 0) hb1]; rfl
  have c2 : w1.cell? ⟨w.heap.size + 1, 2, none⟩ = some (.int .i64 cl) := by rw [cell_of_row w1 _ 2 _ _ (0, 0) hb1]; rfl
  have HG1 := hide (grown_trans (unhide HG0) g1)
  clear g1 HT hb1 HBX HG0
  by_cases h1 : nh ≤ ro
  · have d1 : decide (nh ≤ ro) = true := decide_eq_true h1
    have e : b = true := by rw [← unhide HBE, d1]; rfl
    subst e
    clear HBE
    go_wp2
    go_ret
    exact ⟨rfl, unhide HG1⟩
  · have d1 : decide (nh ≤ ro) = false := decide_eq_false h1
    obtain ⟨b2, hb2⟩ : ∃ b2, decide (nw ≤ cl) = b2 := ⟨_, rfl⟩
    have e : b = b2 := by rw [← unhide HBE, d1, hb2]; rfl
    subst e
    clear HBE
    go_wp2
    go_ret
    exact ⟨rfl, unhide HG1⟩

end Go.Proofs.YtnbpfkeppogacaaGreat
