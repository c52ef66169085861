/-
  Options: the law's own copy, and what both sides say of them (written by gen_pic.py).
-/
import Derived.Test.YtgknninkfdgebaaFrameImpl
import Derived.Test.YtgknninkfdgebaaBetween
import Derived.Test.YtgknninkfdgebaaRowOps
namespace Go.Proofs.Ytgknninkfdgebaa
open Go.RowKit

def optsB (q m k r : Int) : Bool := decide (0 ≤ q ∧ q ≤ 100) && (decide (0 ≤ m ∧ m ≤ 1) && (decide (0 ≤ k ∧ k ≤ 2) && decide (0 ≤ r ∧ r ≤ 255)))

set_option maxHeartbeats 800000 in
theorem toOptions (q m k r : Int) (co ha : Bool) (w : World) :
    Calls Try.prog 19 #[.agg #[.int .i64 q, .int .i64 m, .int .i64 k, .int .i64 r, .bool co, .bool ha]] w fun e w' => e = .returned (.agg #[.int .i64 q, .int .i64 m, .int .i64 k, .int .i64 r, .bool co, .bool ha]) ∧ w.grownBy w' none := by
  obtain ⟨W3, hW3⟩ : ∃ W3, (((w.alloc (.cells #[.int .i64 q, .int .i64 m, .int .i64 k, .int .i64 r, .bool co, .bool ha] 38)).alloc (.cells #[.int .i64 0, .int .i64 0, .int .i64 0, .int .i64 0, .bool false, .bool false] 40)).alloc (.cells #[.int .i64 q, .int .i64 m, .int .i64 k, .int .i64 r, .bool co, .bool ha] 40)) = W3 := ⟨_, rfl⟩
  have G0 : w.grownBy W3 none := by rw [← hW3]; exact grown_alloc (grown_alloc (grown_alloc (World.grownBy.refl _ _) _) _) _
  have b1 : W3.heap[w.heap.size + 1]? = some (.cells #[.int .i64 0, .int .i64 0, .int .i64 0, .int .i64 0, .bool false, .bool false] 40 (0, 0)) := by
    rw [← hW3, Below.heap_alloc _ _ _ (by simp)]
    have := heap_alloc_new (w.alloc (.cells #[.int .i64 q, .int .i64 m, .int .i64 k, .int .i64 r, .bool co, .bool ha] 38)) (.cells #[.int .i64 0, .int .i64 0, .int .i64 0, .int .i64 0, .bool false, .bool false] 40)
    simpa using this
  have b2 : W3.heap[w.heap.size + 1 + 1]? = some (.cells #[.int .i64 q, .int .i64 m, .int .i64 k, .int .i64 r, .bool co, .bool ha] 40 (0, 0)) := by
    rw [← hW3]
    have := heap_alloc_new ((w.alloc (.cells #[.int .i64 q, .int .i64 m, .int .i64 k, .int .i64 r, .bool co, .bool ha] 38)).alloc (.cells #[.int .i64 0, .int .i64 0, .int .i64 0, .int .i64 0, .bool false, .bool false] 40)) (.cells #[.int .i64 q, .int .i64 m, .int .i64 k, .int .i64 r, .bool co, .bool ha] 40)
    simpa using this
  have HW := hide hW3
  have B1 := hide b1
  have B2 := hide b2
  have HG0 := hide G0
  clear hW3 b1 b2 G0
  go_enter Try.func19, Try.ntmps19
  go_wp2_with (first | (rw [unhide HW]; refine load_row rfl 40 _ rfl (w.heap.size + 1 + 1) rfl #[.int .i64 q, .int .i64 m, .int .i64 k, .int .i64 r, .bool co, .bool ha] 40 (unhide B2) _ Try.underlying40 rfl (by kernel_rfl) ?_) | (refine store_row rfl 40 _ _ rfl (w.heap.size + 1) rfl #[.int .i64 q, .int .i64 m, .int .i64 k, .int .i64 r, .bool co, .bool ha] rfl #[.int .i64 0, .int .i64 0, .int .i64 0, .int .i64 0, .bool false, .bool false] 40 (unhide B1) rfl (by kernel_rfl) (by simp [Value.oneCell']) ?_; intro w9 hB9 g9))
  refine bodyPost_ret (v := .agg #[.int .i64 q, .int .i64 m, .int .i64 k, .int .i64 r, .bool co, .bool ha]) ?_ rfl ⟨rfl, ?_⟩
  · rw [results_c1 rfl]
    exact run_loadVar_row w9 _ 40 40 _ (0, 0) _ hB9 Try.underlying40 rfl (by kernel_rfl)
  · exact grown_new (unhide HG0) g9 (fun g e => by simp at e; omega)

set_option maxHeartbeats 800000 in
theorem specOptionsOk (q m k r : Int) (co ha : Bool) (t : Bool) (HT : Hid (optsB q m k r = t)) (w : World) :
    Calls Try.prog 18 #[.agg #[.int .i64 q, .int .i64 m, .int .i64 k, .int .i64 r, .bool co, .bool ha]] w fun e w' => e = .returned (.bool t) ∧ w.grownBy w' none := by
  obtain ⟨t1, H1⟩ : ∃ t, Hid (decide (0 ≤ q ∧ q ≤ 100) = t) := ⟨_, rfl⟩
  obtain ⟨t2, H2⟩ : ∃ t, Hid (decide (0 ≤ m ∧ m ≤ 1) = t) := ⟨_, rfl⟩
  obtain ⟨t3, H3⟩ : ∃ t, Hid (decide (0 ≤ k ∧ k ≤ 2) = t) := ⟨_, rfl⟩
  obtain ⟨t4, H4⟩ : ∃ t, Hid (decide (0 ≤ r ∧ r ≤ 255) = t) := ⟨_, rfl⟩
  have ht := unhide HT
  unfold optsB at ht
  rw [unhide H1, unhide H2, unhide H3, unhide H4] at ht
  have HT2 := hide ht
  clear ht HT
  go_enter Try.func18, Try.ntmps18
  go_wp2_with fail
  refine (between q 0 100 t1 H1 _).mono ?_
  rintro e w1 ⟨rfl, rfl⟩
  cases t1 with
  | false =>
    obtain rfl : t = false := by have := unhide HT2; simpa using this.symm
    go_wp2
    go_ret
    exact ⟨rfl, grown_alloc (World.grownBy.refl _ _) _⟩
  | true =>
  go_wp2_with fail
  refine (between m 0 1 t2 H2 _).mono ?_
  rintro e w1 ⟨rfl, rfl⟩
  cases t2 with
  | false =>
    obtain rfl : t = false := by have := unhide HT2; simpa using this.symm
    go_wp2
    go_ret
    exact ⟨rfl, grown_alloc (World.grownBy.refl _ _) _⟩
  | true =>
  go_wp2_with fail
  refine (between k 0 2 t3 H3 _).mono ?_
  rintro e w1 ⟨rfl, rfl⟩
  cases t3 with
  | false =>
    obtain rfl : t = false := by have := unhide HT2; simpa using this.symm
    go_wp2
    go_ret
    exact ⟨rfl, grown_alloc (World.grownBy.refl _ _) _⟩
  | true =>
  go_wp2_with fail
  refine (between r 0 255 t4 H4 _).mono ?_
  rintro e w1 ⟨rfl, rfl⟩
  obtain rfl : t = t4 := by have := unhide HT2; simpa using this.symm
  go_wp2
  go_ret
  exact ⟨rfl, grown_alloc (World.grownBy.refl _ _) _⟩

theorem modeOk18 (m : Int) (t : Bool) (ht : Hid (decide (0 ≤ m ∧ m ≤ 1) = t)) (w : World) :
    Calls Try.prog 43 #[.int .i64 m] w fun e w' => e = .returned (.bool t) ∧ w = w' := by
  go_enter Try.func43, Try.ntmps43
  go_wp2_with fail
  refine (inRange m 0 1 t ht w).mono ?_
  rintro e w1 ⟨rfl, rfl⟩
  go_wp2
  go_ret
  exact ⟨rfl, rfl⟩

set_option maxHeartbeats 800000 in
theorem implOptionsOk (q m k r : Int) (co ha : Bool) (t : Bool) (HT : Hid (optsB q m k r = t)) (w : World) :
    Calls Try.prog 20 #[.agg #[.int .i64 q, .int .i64 m, .int .i64 k, .int .i64 r, .bool co, .bool ha]] w fun e w' => e = .returned (.bool t) ∧ w.grownBy w' none := by
  obtain ⟨t1, H1⟩ : ∃ t, Hid (decide (0 ≤ q ∧ q ≤ 100) = t) := ⟨_, rfl⟩
  obtain ⟨t2, H2⟩ : ∃ t, Hid (decide (0 ≤ m ∧ m ≤ 1) = t) := ⟨_, rfl⟩
  obtain ⟨t3, H3⟩ : ∃ t, Hid (decide (0 ≤ k ∧ k ≤ 2) = t) := ⟨_, rfl⟩
  obtain ⟨t4, H4⟩ : ∃ t, Hid (decide (0 ≤ r ∧ r ≤ 255) = t) := ⟨_, rfl⟩
  have ht := unhide HT
  unfold optsB at ht
  rw [unhide H1, unhide H2, unhide H3, unhide H4] at ht
  have HT2 := hide ht
  clear ht HT
  go_enter Try.func20, Try.ntmps20
  go_wp2_with fail
  refine (inRange q 0 100 t1 H1 _).mono ?_
  rintro e w1 ⟨rfl, rfl⟩
  cases t1 with
  | false =>
    obtain rfl : t = false := by have := unhide HT2; simpa using this.symm
    go_wp2
    go_ret
    exact ⟨rfl, grown_alloc (World.grownBy.refl _ _) _⟩
  | true =>
  go_wp2_with fail
  refine (modeOk18 m t2 H2 _).mono ?_
  rintro e w1 ⟨rfl, rfl⟩
  cases t2 with
  | false =>
    obtain rfl : t = false := by have := unhide HT2; simpa using this.symm
    go_wp2
    go_ret
    exact ⟨rfl, grown_alloc (World.grownBy.refl _ _) _⟩
  | true =>
  go_wp2_with fail
  refine (inRange k 0 2 t3 H3 _).mono ?_
  rintro e w1 ⟨rfl, rfl⟩
  cases t3 with
  | false =>
    obtain rfl : t = false := by have := unhide HT2; simpa using this.symm
    go_wp2
    go_ret
    exact ⟨rfl, grown_alloc (World.grownBy.refl _ _) _⟩
  | true =>
  go_wp2_with fail
  refine (inRange r 0 255 t4 H4 _).mono ?_
  rintro e w1 ⟨rfl, rfl⟩
  obtain rfl : t = t4 := by have := unhide HT2; simpa using this.symm
  go_wp2
  go_ret
  exact ⟨rfl, grown_alloc (World.grownBy.refl _ _) _⟩

end Go.Proofs.Ytgknninkfdgebaa
