/-
  PictureOk in the program (written by gen_picimpl.py).
-/
import Derived.Test.YtgknninkfdgebaaPicSpec
import Derived.Test.YtgknninkfdgebaaFrameImpl2
import Derived.Test.YtgknninkfdgebaaGeoImpl
import Derived.Test.YtgknninkfdgebaaColourImpl2
namespace Go.Proofs.Ytgknninkfdgebaa
open Go.RowKit

set_option maxRecDepth 20000 in
set_option maxHeartbeats 1600000 in
theorem implHead (p wd ht : Int) (xo : Option Addr) (n xc : Nat) (w : World) :
    Calls Try.prog 35 #[.agg #[.int .i64 p, .int .i64 wd, .int .i64 ht, .slice xo n xc]] w fun e w' => e = .returned (.agg #[.int .i64 p, .int .i64 wd, .int .i64 ht, .int .i64 0, .int .i64 (n : Int), .int .i64 0, .int .i64 0, .int .i64 0, .int .i64 0, .int .i64 0, .int .i64 0, .int .i64 0, .int .i64 0, .int .i64 0, .int .i64 0, .int .i64 0, .int .i64 0, .int .i64 0, .int .i64 0, .int .i64 0, .int .i64 0]) ∧ w.grownBy w' none := by
  obtain ⟨W3, hW3⟩ : ∃ W3, ((w.alloc (.cells #[.int .i64 p, .int .i64 wd, .int .i64 ht, .slice xo n xc] 33)).alloc (.cells #[.int .i64 0, .int .i64 0, .int .i64 0, .int .i64 0, .int .i64 0, .int .i64 0, .int .i64 0, .int .i64 0, .int .i64 0, .int .i64 0, .int .i64 0, .int .i64 0, .int .i64 0, .int .i64 0, .int .i64 0, .int .i64 0, .int .i64 0, .int .i64 0, .int .i64 0, .int .i64 0, .int .i64 0] 65)) = W3 := ⟨_, rfl⟩
  have HG0 : Hid (w.grownBy W3 none) := by rw [← hW3]; exact grown_alloc (World.grownBy_alloc _ _ _) _
  have b1 : Hid (W3.heap[w.heap.size + 1]? = some (.cells #[.int .i64 0, .int .i64 0, .int .i64 0, .int .i64 0, .int .i64 0, .int .i64 0, .int .i64 0, .int .i64 0, .int .i64 0, .int .i64 0, .int .i64 0, .int .i64 0, .int .i64 0, .int .i64 0, .int .i64 0, .int .i64 0, .int .i64 0, .int .i64 0, .int .i64 0, .int .i64 0, .int .i64 0] 65 (0, 0))) := by
    rw [← hW3]
    have := heap_alloc_new (w.alloc (.cells #[.int .i64 p, .int .i64 wd, .int .i64 ht, .slice xo n xc] 33)) (.cells #[.int .i64 0, .int .i64 0, .int .i64 0, .int .i64 0, .int .i64 0, .int .i64 0, .int .i64 0, .int .i64 0, .int .i64 0, .int .i64 0, .int .i64 0, .int .i64 0, .int .i64 0, .int .i64 0, .int .i64 0, .int .i64 0, .int .i64 0, .int .i64 0, .int .i64 0, .int .i64 0, .int .i64 0] 65)
    unfold Hid
    simpa using this
  have HW := hide hW3
  clear hW3
  go_enter Try.func35, Try.ntmps35
  go_wp2_with (rw [unhide HW]; refine store_row rfl 65 _ _ rfl (w.heap.size + 1) rfl #[.int .i64 p, .int .i64 wd, .int .i64 ht, .int .i64 0, .int .i64 (n : Int), .int .i64 0, .int .i64 0, .int .i64 0, .int .i64 0, .int .i64 0, .int .i64 0, .int .i64 0, .int .i64 0, .int .i64 0, .int .i64 0, .int .i64 0, .int .i64 0, .int .i64 0, .int .i64 0, .int .i64 0, .int .i64 0] rfl #[.int .i64 0, .int .i64 0, .int .i64 0, .int .i64 0, .int .i64 0, .int .i64 0, .int .i64 0, .int .i64 0, .int .i64 0, .int .i64 0, .int .i64 0, .int .i64 0, .int .i64 0, .int .i64 0, .int .i64 0, .int .i64 0, .int .i64 0, .int .i64 0, .int .i64 0, .int .i64 0, .int .i64 0] 65 (unhide b1) rfl (by kernel_rfl) (by simp [Value.oneCell']) ?_; intro w9 hB9 g9)
  refine bodyPost_ret (v := .agg #[.int .i64 p, .int .i64 wd, .int .i64 ht, .int .i64 0, .int .i64 (n : Int), .int .i64 0, .int .i64 0, .int .i64 0, .int .i64 0, .int .i64 0, .int .i64 0, .int .i64 0, .int .i64 0, .int .i64 0, .int .i64 0, .int .i64 0, .int .i64 0, .int .i64 0, .int .i64 0, .int .i64 0, .int .i64 0]) ?_ rfl ⟨rfl, ?_⟩
  · rw [results_c1 rfl]
    exact run_loadVar_row w9 _ 65 65 _ (0, 0) _ hB9 Try.underlying65 rfl (by kernel_rfl)
  · exact grown_new (unhide HG0) g9 (fun g e => by simp at e; omega)

theorem head_fx (p wd ht : Int) (n : Nat) : Fx #[.int .i64 p, .int .i64 wd, .int .i64 ht, .int .i64 0, .int .i64 (n : Int), .int .i64 0, .int .i64 0, .int .i64 0, .int .i64 0, .int .i64 0, .int .i64 0, .int .i64 0, .int .i64 0, .int .i64 0, .int .i64 0, .int .i64 0, .int .i64 0, .int .i64 0, .int .i64 0, .int .i64 0, .int .i64 0] p wd ht 0 n (fun _ _ => 0) :=
  ⟨rfl, rfl, rfl, rfl, rfl, rfl, fun i j hi hj => by
    have hi' : i = 0 ∨ i = 1 ∨ i = 2 ∨ i = 3 := by omega
    have hj' : j = 0 ∨ j = 1 ∨ j = 2 ∨ j = 3 := by omega
    rcases hi' with rfl | rfl | rfl | rfl <;> rcases hj' with rfl | rfl | rfl | rfl <;> rfl⟩

set_option maxRecDepth 20000 in
set_option maxHeartbeats 1600000 in
theorem implWhole (p wd ht : Int) (n : Nat) (w : World) :
    Calls Try.prog 40 #[.agg #[.int .i64 p, .int .i64 wd, .int .i64 ht, .int .i64 0, .int .i64 (n : Int), .int .i64 0, .int .i64 0, .int .i64 0, .int .i64 0, .int .i64 0, .int .i64 0, .int .i64 0, .int .i64 0, .int .i64 0, .int .i64 0, .int .i64 0, .int .i64 0, .int .i64 0, .int .i64 0, .int .i64 0, .int .i64 0]] w fun e w' => e = .returned (.agg #[.int .i64 wd, .int .i64 ht]) ∧ w.grownBy w' none := by
  obtain ⟨W3, hW3⟩ : ∃ W3, ((w.alloc (.cells #[.int .i64 p, .int .i64 wd, .int .i64 ht, .int .i64 0, .int .i64 (n : Int), .int .i64 0, .int .i64 0, .int .i64 0, .int .i64 0, .int .i64 0, .int .i64 0, .int .i64 0, .int .i64 0, .int .i64 0, .int .i64 0, .int .i64 0, .int .i64 0, .int .i64 0, .int .i64 0, .int .i64 0, .int .i64 0] 65)).alloc (.cells #[.int .i64 0, .int .i64 0] 71)) = W3 := ⟨_, rfl⟩
  have HG0 : Hid (w.grownBy W3 none) := by rw [← hW3]; exact grown_alloc (World.grownBy_alloc _ _ _) _
  have b1 : Hid (W3.heap[w.heap.size + 1]? = some (.cells #[.int .i64 0, .int .i64 0] 71 (0, 0))) := by
    rw [← hW3]
    have := heap_alloc_new (w.alloc (.cells #[.int .i64 p, .int .i64 wd, .int .i64 ht, .int .i64 0, .int .i64 (n : Int), .int .i64 0, .int .i64 0, .int .i64 0, .int .i64 0, .int .i64 0, .int .i64 0, .int .i64 0, .int .i64 0, .int .i64 0, .int .i64 0, .int .i64 0, .int .i64 0, .int .i64 0, .int .i64 0, .int .i64 0, .int .i64 0] 65)) (.cells #[.int .i64 0, .int .i64 0] 71)
    unfold Hid
    simpa using this
  have HW := hide hW3
  clear hW3
  go_enter Try.func40, Try.ntmps40
  go_wp2_with (rw [unhide HW]; refine store_row rfl 71 _ _ rfl (w.heap.size + 1) rfl #[.int .i64 wd, .int .i64 ht] rfl #[.int .i64 0, .int .i64 0] 71 (unhide b1) rfl (by kernel_rfl) (by simp [Value.oneCell']) ?_; intro w9 hB9 g9)
  refine bodyPost_ret (v := .agg #[.int .i64 wd, .int .i64 ht]) ?_ rfl ⟨rfl, ?_⟩
  · rw [results_c1 rfl]
    exact run_loadVar_row w9 _ 71 71 _ (0, 0) _ hB9 Try.underlying71 rfl (by kernel_rfl)
  · exact grown_new (unhide HG0) g9 (fun g e => by simp at e; omega)

set_option maxRecDepth 20000 in
set_option maxHeartbeats 1600000 in
theorem implHolds (h tp : Int) (htp : 0 ≤ tp) (ro : Option Addr) (ln rc : Nat) (L : List Int) (m : Int) (w : World) (hr : Rd .i64 w ro ln L) (hl : ln ≤ 1048576) (t : Bool) (HT : Hid ((decide ((ln : Int) = m) && L.all fun z => decide (0 ≤ z ∧ z ≤ tp)) = t)) :
    Calls Try.prog 39 #[.agg #[.int .i64 h, .int .i64 tp], .slice ro ln rc, .int .i64 m] w fun e w' => e = .returned (.bool t) ∧ w.grownBy w' none := by
  have HZ := hide hr.1
  by_cases hlm : ¬ (ln : Int) = m
  · obtain rfl : t = false := by rw [← unhide HT, decide_eq_false hlm]; rfl
    have hne : ((ln : Int) != m) = true := by simpa using hlm
    clear hr HT hlm
    go_enter Try.func39, Try.ntmps39
    go_wp2
    go_ret
    exact ⟨rfl, grown_alloc (World.grownBy.refl _ _) _⟩
  have hlm : (ln : Int) = m := by omega
  have HTX : Hid ((L.all fun z => decide (0 ≤ z ∧ z ≤ tp)) = t) := by unfold Hid; rw [← unhide HT, decide_eq_true hlm]; rfl
  have hne : ((ln : Int) != m) = false := by simpa using hlm
  obtain ⟨W0, hW0⟩ : ∃ W0, (w.alloc (.cells #[.int .i64 h, .int .i64 tp] 57)) = W0 := ⟨_, rfl⟩
  have HG0 : Hid (w.grownBy W0 none) := by rw [← hW0]; exact World.grownBy_alloc _ _ _
  have B0 : Hid (W0.heap[w.heap.size]? = some (.cells #[.int .i64 h, .int .i64 tp] 57 (0, 0))) := by rw [← hW0]; exact heap_alloc_new w _
  have HR0 := hide (hr.grown (unhide HG0))
  have HW := hide hW0
  clear hr HT hlm hW0
  go_enter Try.func39, Try.ntmps39
  go_wp2
  rw [unhide HW]
  generalize hsz : w.heap.size = s at *
  clear hsz HW hne
  go_loopw [15] (fun i wr => ∃ q : Nat, q ≤ ln ∧ i = .int .i64 q ∧ Hid (∀ j (hj : j < L.length), j < q → decide (0 ≤ L[j] ∧ L[j] ≤ tp) = true) ∧ Hid (W0.grownBy wr none)) (fun i _ => ln - (intOf i).toNat)
  case atStart => exact ⟨0, by omega, by go_num, fun j _ hj => absurd hj (by omega), World.grownBy.refl _ _⟩
  case round =>
    obtain ⟨q, hq, rfl, HQ, HG⟩ := hrel
    by_cases hql : q < ln
    · have hqI : (q : Int) < (ln : Int) := by omega
      have hqL : q < L.length := by have := unhide HZ; omega
      obtain ⟨rb, rof, rfl, hz⟩ := ((unhide HR0).grown (unhide HG)).2 q hql
      obtain ⟨z, HZZ⟩ : ∃ z, Hid (L.getD q 0 = z) := ⟨_, rfl⟩
      rw [unhide HZZ] at hz
      have hLz : L[q] = z := by rw [← unhide HZZ]; simp [hqL]
      have HLZ := hide hLz
      have KK := hide (grown_at7 (unhide HG) (unhide B0) (by simp))
      obtain ⟨u, HU⟩ : ∃ u, Hid (clipI z tp = u) := ⟨_, rfl⟩
      have e8 := i64_in ((q : Int) + 1) (by omega)
      clear hLz
      go_wp2_with (refine load_row rfl 57 _ rfl s rfl #[.int .i64 h, .int .i64 tp] 57 (unhide KK) _ Try.underlying57 rfl (by kernel_rfl) ?_)
      refine (implNear17 h tp z u HU wr).mono ?_
      rintro e w4 ⟨rfl, g4⟩
      have HG' := hide (grown_trans (unhide HG) g4)
      clear hz KK HG g4
      obtain ⟨tb, HTB⟩ : ∃ t, Hid (decide (0 ≤ z ∧ z ≤ tp) = t) := ⟨_, rfl⟩
      have hzu : (z != u) = !tb := by
        rw [← unhide HTB, ← unhide HU]
        cases hd : decide (0 ≤ z ∧ z ≤ tp) with
        | true => have := of_decide_eq_true hd; rw [clip_id this]; simp
        | false =>
          have h1 := of_decide_eq_false hd
          have h2 := clip_in z tp htp
          simp
          intro e
          rw [← e] at h2
          exact h1 h2
      cases tb with
      | false =>
        obtain rfl : t = false := by rw [← unhide HTX]; exact all_no hqL (by rw [unhide HLZ]; exact unhide HTB)
        have HGR := hide (grown_trans (unhide HG0) (unhide HG'))
        simp only [Bool.not_false] at hzu
        go_wp2
        go_ret
        exact ⟨rfl, unhide HGR⟩
      | true =>
        have HQ' : Hid (∀ j (hj : j < L.length), j < q + 1 → decide (0 ≤ L[j] ∧ L[j] ≤ tp) = true) := fun j hj hjq => by
          by_cases e : j = q
          · subst e; rw [unhide HLZ]; exact unhide HTB
          · exact unhide HQ j hj (by omega)
        simp only [Bool.not_true] at hzu
        go_wp2
        go_roundw
        case rel => exact ⟨q + 1, by omega, by go_num, HQ', HG'⟩
        case measure => simp [intOf]; omega
    · obtain rfl : q = ln := by omega
      obtain rfl : t = true := by rw [← unhide HTX]; exact all_yes (fun i hi => unhide HQ i hi (by have := unhide HZ; omega))
      have HGR := hide (grown_trans (unhide HG0) (unhide HG))
      go_wp2
      go_ret
      exact ⟨rfl, unhide HGR⟩

end Go.Proofs.Ytgknninkfdgebaa
