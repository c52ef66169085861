/-
  The walk of the law on OptionsOk.
-/
import Derived.Test.YtgknninkfdgebaaOptRows
namespace Go.Proofs.Ytgknninkfdgebaa
open Go.RowKit

set_option maxHeartbeats 800000 in
theorem lawOptionsOk (q m k r : Int) (co ha : Bool) (w : World) :
    Calls Try.prog 5 #[.agg #[.int .i64 q, .int .i64 m, .int .i64 k, .int .i64 r, .bool co, .bool ha]] w fun e w' => e = .returned (.bool true) ∧ Below w.heap.size w w' := by
  obtain ⟨t, HT⟩ : ∃ t, Hid (optsB q m k r = t) := ⟨_, rfl⟩
  have htt : (t != t) = false := by simp
  go_enter Try.func5, Try.ntmps5
  go_wp2_with fail
  refine (toOptions q m k r co ha _).mono ?_
  rintro e w1 ⟨rfl, g1⟩
  have B1 := hide ((g1.block w.heap.size (by simp) (by simp)).trans (heap_alloc_new w (.cells #[.int .i64 q, .int .i64 m, .int .i64 k, .int .i64 r, .bool co, .bool ha] 38)))
  have G1 := hide (grown_trans (World.grownBy_alloc w _ _) g1)
  clear g1
  go_wp2_with fail
  refine (specOptionsOk q m k r co ha t HT w1).mono ?_
  rintro e w2 ⟨rfl, g2⟩
  have B2 := hide ((g2.block w.heap.size (Array.getElem?_eq_some_iff.1 (unhide B1)).1 (by simp)).trans (unhide B1))
  have G2 := hide (grown_trans (unhide G1) g2)
  clear g2 G1 B1
  go_wp2_with (refine load_row rfl 38 _ rfl w.heap.size rfl #[.int .i64 q, .int .i64 m, .int .i64 k, .int .i64 r, .bool co, .bool ha] 38 (unhide B2) _ Try.underlying38 rfl (by kernel_rfl) ?_)
  refine (toOptions q m k r co ha w2).mono ?_
  rintro e w3 ⟨rfl, g3⟩
  have G3 := hide (grown_trans (unhide G2) g3)
  clear g3 G2 B2
  go_wp2_with fail
  refine (implOptionsOk q m k r co ha t HT w3).mono ?_
  rintro e w4 ⟨rfl, g4⟩
  have G4 := hide (grown_trans (unhide G3) g4)
  clear g4 G3
  go_wp2
  go_ret
  exact ⟨rfl, grown_below (unhide G4)⟩

end Go.Proofs.Ytgknninkfdgebaa
