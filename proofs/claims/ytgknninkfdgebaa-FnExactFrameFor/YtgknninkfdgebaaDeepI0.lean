/-
  The laws' own small functions on rows of numbers, as those on rows of rows take them.
-/
import Derived.Test.YtgknninkfdgebaaDeepC
import Derived.Test.YtgknninkfdgebaaIntRows
namespace Go.Proofs.Ytgknninkfdgebaa
open Go.RowKit

theorem toIntSC : ToC 8 (RdI .i64) (OwI .i64 3) lenI := by
  rintro w u a ⟨ao, cap, rfl, hr⟩ hs
  refine (toIntS ao a.length cap a w hr (by unfold lenI at hs; omega)).mono ?_
  rintro e w' ⟨rfl, ho, hg⟩
  exact ⟨_, _, rfl, OwI.of ho, blk_nodup _, fun g hx => by have : w.heap.size = g := Option.some.inj (mem_blk.1 hx); omega, hg⟩

theorem eqIntSC : EqC 10 (RdI .i64) lenI := by
  rintro w u u' a ⟨ao, cap, rfl, hr⟩ ⟨bo, cap', rfl, hr'⟩ hs
  exact eqIntS ao bo a.length cap cap' a w hr hr' (by unfold lenI at hs; omega)

theorem markIntSC : MarkC 11 (OwI .i64 3) mkI lenI lenI := by
  rintro w u a F k ⟨ho, rfl⟩ _ hs h0 h1
  obtain ⟨ao, cap, rfl⟩ := own_form ho
  unfold lenI at hs h1
  refine (markIntS ao a.length cap 0 _ k w ho (by omega) h0 (by omega)).mono ?_
  rintro e w' ⟨rfl, ho2, hg⟩
  have hl : (mkI a k).length = a.length := by unfold mkI; rw [marks_len]
  refine ⟨rfl, ⟨?_, rfl⟩, Wr.ofRow hg (fun g e => mem_blk.2 e)⟩
  rw [hl]
  exact ho2

theorem heldIntSC : HeldC 12 (RdI .i64) mkI lenI lenI := by
  rintro w u a k ⟨ao, cap, rfl, hr⟩ hs h0 h1
  have hl : (mkI a k).length = a.length := by unfold mkI; rw [marks_len]
  unfold lenI at hs h1
  rw [hl] at hr ⊢
  exact heldIntS ao a.length cap k w hr (by omega) h0 (by omega)

set_option maxHeartbeats 400000 in
theorem szIntSC : SzC 56 (RdZ (RdI .i64)) lenI := by
  rintro w u a left ⟨⟨ao, cap, rfl, _⟩, hm⟩ hl
  unfold maxLen at hm
  unfold lenI
  generalize a.length = n at *
  have e1 := i64_in ((left : Int) - (n : Int)) (by omega)
  by_cases h : n ≤ left
  · have hd : decide ((left : Int) - (n : Int) < 0) = false := decide_eq_false (by omega)
    rw [if_pos h]
    go_enter Try.func56, Try.ntmps56
    go_wp2
    go_ret
    exact ⟨rfl, rfl⟩
  · have hd : decide ((left : Int) - (n : Int) < 0) = true := decide_eq_true (by omega)
    rw [if_neg h]
    go_enter Try.func56, Try.ntmps56
    go_wp2
    go_ret
    exact ⟨rfl, rfl⟩

theorem ok1 : OwOk (OwI .i64 3) := OwI.ok .i64 3

end Go.Proofs.Ytgknninkfdgebaa
