/-
  A frame with its components inside as a Frame (moved here from FrameWrite .. FrameRead3).
-/
import Derived.Test.YtgknninkfdgebaaFrameRows
import Derived.Test.YtgknninkfdgebaaFrameImpl2
namespace Go.Proofs.Ytgknninkfdgebaa
open Go.RowKit

theorem frameCells5 {w : World} {g : Nat} {a b c d v : Value} {t : TypeId} (hb : w.heap[g]? = some (.cells #[a, b, c, d, v] t (0, 0))) :
    w.cell? ⟨g, 0, none⟩ = some a ∧ w.cell? ⟨g, 1, none⟩ = some b ∧ w.cell? ⟨g, 2, none⟩ = some c ∧ w.cell? ⟨g, 3, none⟩ = some d ∧ w.cell? ⟨g, 4, none⟩ = some v :=
  ⟨by rw [cell_of_row w _ 0 _ _ (0, 0) hb]; rfl, by rw [cell_of_row w _ 1 _ _ (0, 0) hb]; rfl, by rw [cell_of_row w _ 2 _ _ (0, 0) hb]; rfl, by rw [cell_of_row w _ 3 _ _ (0, 0) hb]; rfl, by rw [cell_of_row w _ 4 _ _ (0, 0) hb]; rfl⟩

/-- The first cells of a frame, where it lies. -/
theorem fx_heads {X : Array Value} {p wd ht rs n : Int} {C : Nat → Nat → Int} (hX : Fx X p wd ht rs n C) {w : World} {g : Nat} {t : TypeId} (hb : w.heap[g]? = some (.cells X t (0, 0))) :
    w.cell? ⟨g, 0, none⟩ = some (.int .i64 p) ∧ w.cell? ⟨g, 1, none⟩ = some (.int .i64 wd) ∧ w.cell? ⟨g, 2, none⟩ = some (.int .i64 ht) ∧ w.cell? ⟨g, 3, none⟩ = some (.int .i64 rs) ∧ w.cell? ⟨g, 4, none⟩ = some (.int .i64 n) :=
  ⟨by rw [cell_of_row w _ 0 _ _ (0, 0) hb]; exact hX.c0, by rw [cell_of_row w _ 1 _ _ (0, 0) hb]; exact hX.c1, by rw [cell_of_row w _ 2 _ _ (0, 0) hb]; exact hX.c2, by rw [cell_of_row w _ 3 _ _ (0, 0) hb]; exact hX.c3, by rw [cell_of_row w _ 4 _ _ (0, 0) hb]; exact hX.c4⟩

/-- A frame with no components yet. -/
theorem fx_new (p wd ht rs n : Int) : Fx #[.int .i64 p, .int .i64 wd, .int .i64 ht, .int .i64 rs, .int .i64 n, .int .i64 0, .int .i64 0, .int .i64 0, .int .i64 0, .int .i64 0, .int .i64 0, .int .i64 0, .int .i64 0, .int .i64 0, .int .i64 0, .int .i64 0, .int .i64 0, .int .i64 0, .int .i64 0, .int .i64 0, .int .i64 0] p wd ht rs n (fun _ _ => 0) := by
  refine ⟨rfl, rfl, rfl, rfl, rfl, rfl, fun i j hi hj => ?_⟩
  have h1 : i = 0 ∨ i = 1 ∨ i = 2 ∨ i = 3 := by omega
  have h2 : j = 0 ∨ j = 1 ∨ j = 2 ∨ j = 3 := by omega
  rcases h1 with rfl | rfl | rfl | rfl <;> rcases h2 with rfl | rfl | rfl | rfl <;> rfl

theorem all_four (a b c d : Int) : (#[.int .i64 a, .int .i64 b, .int .i64 c, .int .i64 d] : Array Value).all (·.oneCell') = true := by
  rw [Array.all_eq_true_iff_forall_mem]
  intro v hv
  simp at hv
  rcases hv with rfl | rfl | rfl | rfl <;> rfl

theorem Fx.congr {X : Array Value} {p wd ht rs n : Int} {D E : Nat → Nat → Int} (h : Fx X p wd ht rs n D) (he : ∀ i j, D i j = E i j) : Fx X p wd ht rs n E := by
  have e : D = E := by funext i j; exact he i j
  rw [← e]; exact h

/-- One component put. -/
theorem fx_put {X : Array Value} {p wd ht rs n : Int} {D : Nat → Nat → Int} (h : Fx X p wd ht rs n D) (k : Nat) (hk : k < 4) (c0 c1 c2 c3 : Int) :
    Fx (X.toList.take (5 + k * 4) ++ (#[.int .i64 c0, .int .i64 c1, .int .i64 c2, .int .i64 c3] : Array Value).toList ++ X.toList.drop (5 + k * 4 + (#[.int .i64 c0, .int .i64 c1, .int .i64 c2, .int .i64 c3] : Array Value).toList.length)).toArray p wd ht rs n (fun i j => if i = k then (if j = 0 then c0 else if j = 1 then c1 else if j = 2 then c2 else c3) else D i j) := by
  have hs := h.size
  have hl : (X.toList.take (5 + k * 4)).length = 5 + k * 4 := by simp; omega
  have hlc : (#[.int .i64 c0, .int .i64 c1, .int .i64 c2, .int .i64 c3] : Array Value).toList.length = 4 := rfl
  rw [hlc]
  have low : ∀ q, q < 5 + k * 4 → (X.toList.take (5 + k * 4) ++ (#[.int .i64 c0, .int .i64 c1, .int .i64 c2, .int .i64 c3] : Array Value).toList ++ X.toList.drop (5 + k * 4 + 4)).toArray[q]? = X[q]? := by
    intro q hq
    rw [List.getElem?_toArray, List.append_assoc, List.getElem?_append_left (by omega), List.getElem?_take, if_pos hq]
    simp
  refine ⟨by simp; omega, (low 0 (by omega)).trans h.c0, (low 1 (by omega)).trans h.c1, (low 2 (by omega)).trans h.c2, (low 3 (by omega)).trans h.c3, (low 4 (by omega)).trans h.c4, fun i j hi hj => ?_⟩
  by_cases hik : i < k
  · rw [low _ (by omega), if_neg (by omega)]
    exact h.comp i j hi hj
  · rw [List.getElem?_toArray]
    by_cases e : i = k
    · subst e
      rw [if_pos rfl, List.getElem?_append_left (by rw [List.length_append, hl, hlc]; omega), List.getElem?_append_right (by omega), hl, show 5 + i * 4 + j - (5 + i * 4) = j by omega]
      have hj4 : j = 0 ∨ j = 1 ∨ j = 2 ∨ j = 3 := by omega
      rcases hj4 with rfl | rfl | rfl | rfl <;> rfl
    · rw [if_neg e, List.getElem?_append_right (by rw [List.length_append, hl, hlc]; omega), List.length_append, hl, hlc, List.getElem?_drop, show 5 + k * 4 + 4 + (5 + i * 4 + j - (5 + k * 4 + 4)) = 5 + i * 4 + j by omega]
      have := h.comp i j hi hj
      simpa using this

/-- The components, where the frame lies, as what is to be appended. -/
theorem fx_news {X : Array Value} {p wd ht rs n : Int} {C : Nat → Nat → Int} (hX : Fx X p wd ht rs n C) {w : World} {g : Nat} {t : TypeId} (hb : w.heap[g]? = some (.cells X t (0, 0))) (m : Nat) (hm : m ≤ 4) :
    ∀ j u, (rowsK m 4 (compCells C))[j]? = some u → w.cell? ((⟨g, 5, none⟩ : Addr).add j) = some u := by
  intro j u hj
  have hjl : j < m * 4 := by have := (List.getElem?_eq_some_iff.1 hj).1; rwa [rowsK_len] at this
  have hd : j = j / 4 * 4 + j % 4 := by omega
  have hg := rowsK_get m 4 (compCells C) (j / 4) (j % 4) (by omega) (by omega)
  rw [← hd, hj] at hg
  simp at hg
  subst hg
  rw [Addr.add_lit]
  have := fx_cell hX hb (j / 4) (j % 4) (by omega) (by omega)
  rw [Nat.add_assoc, ← hd] at this
  exact this

theorem frameFree {w : World} {g : Nat} {a b c d v : Value} {t : TypeId} (hb : w.heap[g]? = some (.cells #[a, b, c, d, v] t (0, 0))) :
    w.frozen? ⟨g, 0, none⟩ = false ∧ w.frozen? ⟨g, 1, none⟩ = false ∧ w.frozen? ⟨g, 2, none⟩ = false ∧ w.frozen? ⟨g, 3, none⟩ = false ∧ w.frozen? ⟨g, 4, none⟩ = false :=
  ⟨frozen_of_row w _ 0 _ _ hb, frozen_of_row w _ 1 _ _ hb, frozen_of_row w _ 2 _ _ hb, frozen_of_row w _ 3 _ _ hb, frozen_of_row w _ 4 _ _ hb⟩
theorem own_as4 {w : World} {base : Nat} {e : TypeId} {v : Value} {n n' : Nat} {xs xs' : List Value} (h : w.ownsRow base e 4 v n xs) (hn : n = n') (hx : xs = xs') : w.ownsRow base e 4 v n' xs' := by subst hn; subst hx; exact h

set_option maxHeartbeats 3200000 in
theorem frameFx (X : Array Value) (p wd ht rs : Int) (m : Nat) (C : Nat → Nat → Int) (hX : Fx X p wd ht rs m C) (hm : m ≤ 4) (w : World) :
    Calls Try.prog 46 #[.agg X] w fun e w' => ∃ bo cap', e = .returned (.agg #[.int .i64 p, .int .i64 wd, .int .i64 ht, .int .i64 rs, .slice bo m cap']) ∧
      w'.ownsRow w.heap.size 62 4 (.slice bo m cap') m (rowsK m 4 (compCells C)) ∧ w.grownBy w' none := by
  obtain ⟨i0, hi, hz0, hz1, hz2⟩ := info_parts Try.info62
  have HX := hide hX
  have hs := hX.size
  have HB : Hid (((w.alloc (.cells X 65)).alloc (.cells #[.int .i64 0, .int .i64 0, .int .i64 0, .int .i64 0, .slice none 0 0] 45)).heap[w.heap.size]? = some (.cells X 65 (0, 0))) := by
    unfold Hid; rw [Below.heap_alloc _ _ _ (by simp)]; exact heap_alloc_new _ _
  have HB1 : Hid (((w.alloc (.cells X 65)).alloc (.cells #[.int .i64 0, .int .i64 0, .int .i64 0, .int .i64 0, .slice none 0 0] 45)).heap[w.heap.size + 1]? = some (.cells #[.int .i64 0, .int .i64 0, .int .i64 0, .int .i64 0, .slice none 0 0] 45 (0, 0))) := by
    have := heap_alloc_new (w.alloc (.cells X 65)) (.cells #[.int .i64 0, .int .i64 0, .int .i64 0, .int .i64 0, .slice none 0 0] 45); unfold Hid; simpa using this
  have G0 : Hid (w.grownBy ((w.alloc (.cells X 65)).alloc (.cells #[.int .i64 0, .int .i64 0, .int .i64 0, .int .i64 0, .slice none 0 0] 45)) none) := grown_alloc (grown_alloc (World.grownBy.refl _ _) _) _
  have HSZ : Hid (((w.alloc (.cells X 65)).alloc (.cells #[.int .i64 0, .int .i64 0, .int .i64 0, .int .i64 0, .slice none 0 0] 45)).heap.size = w.heap.size + 2) := by unfold Hid; simp
  have h4 := hX.c4
  have h4' : X[4] = .int .i64 m := by rw [Array.getElem?_eq_getElem (by omega)] at h4; simpa using h4
  have HNEWS := hide (fx_news hX (unhide HB) m hm)
  have HLEN : Hid ((rowsK m 4 (compCells C)).length = m * 4) := rowsK_len _ _ _
  have HONE : Hid (∀ v ∈ rowsK m 4 (compCells C), v.oneCell' = true) := rowsK_one (fun _ _ => rfl)
  have hm4 : (m : Int) ≤ 4 := by omega
  clear hX
  go_enter Try.func46, Try.ntmps46
  go_wp2_with (at_builtin; refine wpList_append_own _ rfl _ _ 43 rfl (w.heap.size + 2) 62 i0 _ 4 32 Try.underlying43 hi hz0 hz1 hz2 rfl (by decide) (.slice none 0 0) 0 [] rfl (World.ownsRow_nil _ _ _ _) ⟨w.heap.size, 5, none⟩ m 4 (rowsK m 4 (compCells C)) rfl (unhide HLEN) (unhide HNEWS) (unhide HONE) (by unfold maxLen; omega) (by omega) (by rw [unhide HSZ]; exact Nat.le_refl _) ?_; intro v2 w2 hown2 hgrow2 _; have hBX := (hgrow2.block w.heap.size (by rw [unhide HSZ]; omega) (by simp [Value.ownBlock])).trans (unhide HB); have hBR := (hgrow2.block (w.heap.size + 1) (by rw [unhide HSZ]; omega) (by simp [Value.ownBlock])).trans (unhide HB1); have cb := fx_heads (unhide HX) hBX; have cr := frameCells5 hBR; have fr := frameFree hBR; clear hBX hBR; have O2 := hide (own_as4 hown2 (n' := m) (xs' := rowsK m 4 (compCells C)) (by omega) (by simp)); obtain ⟨bo, bc, hv⟩ := own_form (unhide O2); subst hv; clear hown2)
  have G2 : w.grownBy w2 none := grown_trans (unhide G0) hgrow2
  have hk : ∀ (W : World), W.ownsRow (w.heap.size + 2) 62 4 (.slice bo m bc) m (rowsK m 4 (compCells C)) → ∀ (j : Nat) (u : Value), (W.setCell ⟨w.heap.size + 1, j, none⟩ u).ownsRow (w.heap.size + 2) 62 4 (.slice bo m bc) m (rowsK m 4 (compCells C)) :=
    fun W h j u => own_sameAt h (fun g e => Below.heap_setCell _ _ _ _ (by have := (h.lt g e).1; show g ≠ w.heap.size + 1; omega))
  have hq : ∀ (W : World) (j : Nat) (u : Value), w.grownBy W none → w.grownBy (W.setCell ⟨w.heap.size + 1, j, none⟩ u) none := fun W j u h => grown_new h (grown_set W _ j u) (fun g e => by simp at e; omega)
  refine bodyPost_ret (v := .agg #[.int .i64 p, .int .i64 wd, .int .i64 ht, .int .i64 rs, .slice bo m bc]) (by simp [results, Try.results46, go_sem, cr]) rfl ⟨bo, bc, rfl, ?_, ?_⟩
  · exact own_base (hk _ (hk _ (hk _ (hk _ (hk _ (unhide O2) _ _) _ _) _ _) _ _) _ _) (by omega)
  · exact hq _ _ _ (hq _ _ _ (hq _ _ _ (hq _ _ _ (hq _ _ _ G2))))

theorem rowsK_comp (C : Nat → Nat → Int) (k : Nat) (y0 y1 y2 y3 : Int) (h : C k = fun j => if j = 0 then y0 else if j = 1 then y1 else if j = 2 then y2 else y3) :
    rowsK (k + 1) 4 (compCells C) = rowsK k 4 (compCells C) ++ [.int .i64 y0, .int .i64 y1, .int .i64 y2, .int .i64 y3] := by
  apply List.ext_getElem?
  intro c
  by_cases hc : c < k * 4
  · rw [List.getElem?_append_left (by rw [rowsK_len]; exact hc)]
    have hd : c = c / 4 * 4 + c % 4 := by omega
    have e1 := rowsK_get (k + 1) 4 (compCells C) (c / 4) (c % 4) (by omega) (by omega)
    have e2 := rowsK_get k 4 (compCells C) (c / 4) (c % 4) (by omega) (by omega)
    rw [← hd] at e1 e2
    rw [e1, e2]
  · rw [List.getElem?_append_right (by rw [rowsK_len]; omega), rowsK_len]
    by_cases h4 : c - k * 4 < 4
    · have e1 := rowsK_get (k + 1) 4 (compCells C) k (c - k * 4) (by omega) h4
      rw [show k * 4 + (c - k * 4) = c by omega] at e1
      rw [e1]
      have hj : c - k * 4 = 0 ∨ c - k * 4 = 1 ∨ c - k * 4 = 2 ∨ c - k * 4 = 3 := by omega
      rcases hj with e | e | e | e <;> rw [e] <;> simp [compCells, h]
    · rw [List.getElem?_eq_none (by rw [rowsK_len]; omega), List.getElem?_eq_none (by simp; omega)]

end Go.Proofs.Ytgknninkfdgebaa
