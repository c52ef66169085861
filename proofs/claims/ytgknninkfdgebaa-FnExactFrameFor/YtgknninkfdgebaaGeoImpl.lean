/-
  Geometry in the program: shares, the greatest ones, planes, units, blocks.
-/
import Derived.Test.YtgknninkfdgebaaFrameImpl3
import Derived.Test.YtgknninkfdgebaaGeoPure
import Derived.Deep.RegionHeld3
namespace Go.Proofs.Ytgknninkfdgebaa
open Go.RowKit

theorem areaCount (a b : Int) (ha : 0 ≤ a ∧ a ≤ 1024) (hb : 0 ≤ b ∧ b ≤ 1024) (w : World) :
    Calls Try.prog 41 #[.agg #[.int .i64 a, .int .i64 b]] w fun e w' => e = .returned (.int .i64 (a * b)) ∧ w.grownBy w' none := by
  have h0 : 0 ≤ a * b := Int.mul_nonneg ha.1 hb.1
  have h1 : a * b ≤ 1024 * 1024 := Int.mul_le_mul ha.2 hb.2 hb.1 (by omega)
  have hw := i64_in (a * b) (by omega)
  go_enter Try.func41, Try.ntmps41
  go_wp2
  go_ret
  exact ⟨rfl, grown_alloc (World.grownBy.refl _ _) _⟩

theorem areaCells {w : World} {g : Nat} {a b : Value} {t : TypeId} (hb : w.heap[g]? = some (.cells #[a, b] t (0, 0))) :
    w.cell? ⟨g, 0, none⟩ = some a ∧ w.cell? ⟨g, 1, none⟩ = some b ∧ w.frozen? ⟨g, 0, none⟩ = false ∧ w.frozen? ⟨g, 1, none⟩ = false :=
  ⟨by rw [cell_of_row w _ 0 _ _ (0, 0) hb]; rfl, by rw [cell_of_row w _ 1 _ _ (0, 0) hb]; rfl, frozen_of_row w g 0 _ _ hb, frozen_of_row w g 1 _ _ hb⟩
theorem grown_setNew {w w' : World} (h : w.grownBy w' none) (b j : Nat) (u : Value) (hb : w.heap.size ≤ b) : w.grownBy (w'.setCell ⟨b, j, none⟩ u) none := grown_new h (grown_set w' b j u) (fun g e => by simp at e; omega)
theorem loadArea {w : World} {g : Nat} {a b : Int} (hb : w.heap[g]? = some (.cells #[.int .i64 a, .int .i64 b] 71 (0, 0))) : (loadVar 71 ⟨g, 0, none⟩).run Try.prog w = .ok (.agg #[.int .i64 a, .int .i64 b]) w :=
  run_loadVar_row w g 71 71 _ (0, 0) _ hb Try.underlying71 rfl (by kernel_rfl)

end Go.Proofs.Ytgknninkfdgebaa
