/-
  The walks of the law's own copying, marking and looking for marks, on frames.
-/
import Derived.Test.YtnjcmlmgjoaeeaaFrameRows
namespace Go.Proofs.Ytnjcmlmgjoaeeaa
open Go.RowKit

theorem frameCells {w : World} {g : Nat} {a b c d v : Value} {t : TypeId} (hb : w.heap[g]? = some (.cells #[a, b, c, d, v] t (0, 0))) :
    w.cell? ⟨g, 0, none⟩ = some a ∧ w.cell? ⟨g, 1, none⟩ = some b ∧ w.cell? ⟨g, 2, none⟩ = some c ∧ w.cell? ⟨g, 3, none⟩ = some d ∧ w.cell? ⟨g, 4, none⟩ = some v :=
  ⟨by rw [cell_of_row w _ 0 _ _ (0, 0) hb]; rfl, by rw [cell_of_row w _ 1 _ _ (0, 0) hb]; rfl, by rw [cell_of_row w _ 2 _ _ (0, 0) hb]; rfl, by rw [cell_of_row w _ 3 _ _ (0, 0) hb]; rfl, by rw [cell_of_row w _ 4 _ _ (0, 0) hb]; rfl⟩

set_option maxHeartbeats 1600000 in
theorem toFrame (p wd ht rs : Int) (ao : Option Addr) (n cap : Nat) (C : Nat → Nat → Int) (w : World) (hr : RdC w ao n C) (hn : n ≤ 4194304) :
    Calls Try.prog 21 #[.agg #[.int .i64 p, .int .i64 wd, .int .i64 ht, .int .i64 rs, .slice ao n cap]] w fun e w' => ∃ g, e = .returned (.agg #[.int .i64 p, .int .i64 wd, .int .i64 ht, .int .i64 rs, .slice (some ⟨g, 0, none⟩) n n]) ∧
      w'.ownsRow w.heap.size 68 4 (.slice (some ⟨g, 0, none⟩) n n) n (rowsK n 4 (compCells C)) ∧ w.grownBy w' none := by
  have HR := hide hr
  clear hr
  obtain ⟨W3, hW3⟩ : ∃ W3, (((w.alloc (.cells #[.int .i64 p, .int .i64 wd, .int .i64 ht, .int .i64 rs, .slice ao n cap] 42)).alloc (.cells #[.int .i64 0, .int .i64 0, .int .i64 0, .int .i64 0, .slice none 0 0] 26)).alloc (.cells #[.int .i64 p, .int .i64 wd, .int .i64 ht, .int .i64 rs, .slice none 0 0] 26)) = W3 := ⟨_, rfl⟩
  have G0 : w.grownBy W3 none := by rw [← hW3]; exact grown_alloc (grown_alloc (grown_alloc (World.grownBy.refl _ _) _) _) _
  have b1 : W3.heap[w.heap.size + 1]? = some (.cells #[.int .i64 0, .int .i64 0, .int .i64 0, .int .i64 0, .slice none 0 0] 26 (0, 0)) := by
    rw [← hW3, Below.heap_alloc _ _ _ (by simp)]
    have := heap_alloc_new (w.alloc (.cells #[.int .i64 p, .int .i64 wd, .int .i64 ht, .int .i64 rs, .slice ao n cap] 42)) (.cells #[.int .i64 0, .int .i64 0, .int .i64 0, .int .i64 0, .slice none 0 0] 26)
    simpa using this
  have b2 : W3.heap[w.heap.size + 1 + 1]? = some (.cells #[.int .i64 p, .int .i64 wd, .int .i64 ht, .int .i64 rs, .slice none 0 0] 26 (0, 0)) := by
    rw [← hW3]
    have := heap_alloc_new ((w.alloc (.cells #[.int .i64 p, .int .i64 wd, .int .i64 ht, .int .i64 rs, .slice ao n cap] 42)).alloc (.cells #[.int .i64 0, .int .i64 0, .int .i64 0, .int .i64 0, .slice none 0 0] 26)) (.cells #[.int .i64 p, .int .i64 wd, .int .i64 ht, .int .i64 rs, .slice none 0 0] 26)
    simpa using this
  have hsz : W3.heap.size = w.heap.size + 3 := by rw [← hW3]; simp
  have HW := hide hW3
  have B1 := hide b1
  have B2 := hide b2
  have HSZ := hide hsz
  have HG0 := hide G0
  clear hW3 b1 b2 hsz G0
  go_enter Try.func21, Try.ntmps21
  go_wp2_with fail
  rw [unhide HW]
  refine (toCompS ao n cap C W3 ((unhide HR).grown (unhide HG0)) hn).mono ?_
  rintro e w1 ⟨rfl, o1, g1⟩
  have G1 := grown_trans (unhide HG0) g1
  have hz := unhide HSZ
  have e1 := (g1.block (w.heap.size + 1) (by omega) (by simp)).trans (unhide B1)
  have e2 := (g1.block (w.heap.size + 1 + 1) (by omega) (by simp)).trans (unhide B2)
  have hge : w.heap.size + 3 ≤ W3.heap.size := by omega
  have O1 := hide (own_base o1 (show w.heap.size ≤ W3.heap.size by omega))
  have HG1 := hide G1
  clear HW hz HSZ B1 B2 HG0 HR G1 o1 g1
  generalize W3.heap.size = gx at *
  have c0 : w1.cell? ⟨w.heap.size + 1 + 1, 0, none⟩ = some (.int .i64 p) := by rw [cell_of_row w1 _ 0 _ _ (0, 0) e2]; rfl
  have c1 : w1.cell? ⟨w.heap.size + 1 + 1, 1, none⟩ = some (.int .i64 wd) := by rw [cell_of_row w1 _ 1 _ _ (0, 0) e2]; rfl
  have c2 : w1.cell? ⟨w.heap.size + 1 + 1, 2, none⟩ = some (.int .i64 ht) := by rw [cell_of_row w1 _ 2 _ _ (0, 0) e2]; rfl
  have c3 : w1.cell? ⟨w.heap.size + 1 + 1, 3, none⟩ = some (.int .i64 rs) := by rw [cell_of_row w1 _ 3 _ _ (0, 0) e2]; rfl
  have c4 : w1.cell? ⟨w.heap.size + 1 + 1, 4, none⟩ = some (.slice none 0 0) := by rw [cell_of_row w1 _ 4 _ _ (0, 0) e2]; rfl
  have f4 : w1.frozen? ⟨w.heap.size + 1 + 1, 4, none⟩ = false := frozen_of_row w1 _ 4 _ _ e2
  have d0 : w1.cell? ⟨w.heap.size + 1, 0, none⟩ = some (.int .i64 0) := by rw [cell_of_row w1 _ 0 _ _ (0, 0) e1]; rfl
  have d1 : w1.cell? ⟨w.heap.size + 1, 1, none⟩ = some (.int .i64 0) := by rw [cell_of_row w1 _ 1 _ _ (0, 0) e1]; rfl
  have d2 : w1.cell? ⟨w.heap.size + 1, 2, none⟩ = some (.int .i64 0) := by rw [cell_of_row w1 _ 2 _ _ (0, 0) e1]; rfl
  have d3 : w1.cell? ⟨w.heap.size + 1, 3, none⟩ = some (.int .i64 0) := by rw [cell_of_row w1 _ 3 _ _ (0, 0) e1]; rfl
  have d4 : w1.cell? ⟨w.heap.size + 1, 4, none⟩ = some (.slice none 0 0) := by rw [cell_of_row w1 _ 4 _ _ (0, 0) e1]; rfl
  have k0 : w1.frozen? ⟨w.heap.size + 1, 0, none⟩ = false := frozen_of_row w1 _ 0 _ _ e1
  have k1 : w1.frozen? ⟨w.heap.size + 1, 1, none⟩ = false := frozen_of_row w1 _ 1 _ _ e1
  have k2 : w1.frozen? ⟨w.heap.size + 1, 2, none⟩ = false := frozen_of_row w1 _ 2 _ _ e1
  have k3 : w1.frozen? ⟨w.heap.size + 1, 3, none⟩ = false := frozen_of_row w1 _ 3 _ _ e1
  have k4 : w1.frozen? ⟨w.heap.size + 1, 4, none⟩ = false := frozen_of_row w1 _ 4 _ _ e1
  clear e1 e2
  go_wp2
  have hk : ∀ (W : World), W.ownsRow w.heap.size 68 4 (.slice (some ⟨gx, 0, none⟩) n n) n (rowsK n 4 (compCells C)) → ∀ (b j : Nat) (u : Value), b < gx → (W.setCell ⟨b, j, none⟩ u).ownsRow w.heap.size 68 4 (.slice (some ⟨gx, 0, none⟩) n n) n (rowsK n 4 (compCells C)) :=
    fun W h b j u hb => own_sameAt h (fun g e => by simp [Value.ownBlock] at e; subst e; exact Below.heap_setCell _ _ _ _ (by show gx ≠ b; omega))
  have hq : ∀ (W : World) (b j : Nat) (u : Value), w.grownBy W none → w.heap.size ≤ b → w.grownBy (W.setCell ⟨b, j, none⟩ u) none := fun W b j u h hb => grown_new h (grown_set W b j u) (fun g e => by simp at e; omega)
  refine bodyPost_ret (v := .agg #[.int .i64 p, .int .i64 wd, .int .i64 ht, .int .i64 rs, .slice (some ⟨gx, 0, none⟩) n n]) (by simp [results, Try.results21, go_sem, d0, d1, d2, d3, d4]) rfl ⟨gx, rfl, ?_, ?_⟩
  · exact hk _ (hk _ (hk _ (hk _ (hk _ (hk _ (unhide O1) _ _ _ (by omega)) _ _ _ (by omega)) _ _ _ (by omega)) _ _ _ (by omega)) _ _ _ (by omega)) _ _ _ (by omega)
  · exact hq _ _ _ _ (hq _ _ _ _ (hq _ _ _ _ (hq _ _ _ _ (hq _ _ _ _ (hq _ _ _ _ (unhide HG1) (by omega)) (by omega)) (by omega)) (by omega)) (by omega)) (by omega)

end Go.Proofs.Ytnjcmlmgjoaeeaa
