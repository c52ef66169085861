/-
  Samples that are ok, in the program and in the specification.
-/
import Derived.Test.YtoeehfjbnbbijabDoorTabSpec
namespace Go.Proofs.YtoeehfjbnbbijabDoor
open Go.RowKit Go.Shelf

theorem nearestSample (n : Int) (w : World) :
    Calls Tryd.prog 28 #[.int .i64 n] w fun e w' => e = .returned (.int .i64 (min (max n (-2048)) 2047)) ∧ w = w' := by
  go_enter Tryd.func28, Tryd.ntmps28
  go_wp2
  all_goals
    go_ret
    refine ⟨ret_int ?_, rfl⟩
    first | omega | (split at * <;> omega)

set_option maxRecDepth 20000 in
set_option maxHeartbeats 400000 in
theorem fixSamples (ao : Option Addr) (n cap : Nat) (zs : List Int) (w : World) (hr : Rd .i64 w ao n zs) (b : Bool) (hb : Hid (numsB (-2048) 2047 zs = b)) :
    Calls Tryd.prog 17 #[.slice ao n cap] w fun e w' => (∃ ys, e = .returned (.tuple #[.agg (sq ys), .bool b]) ∧ ys.length = 64 ∧ (n = 64 → ys = zs)) ∧ w.grownBy w' none := by
  by_cases h : n = 64
  · subst h
    obtain ⟨bb, off, rfl, _⟩ := hr.2 0 (by omega)
    have e : (zs == made (fun k => min (max (zs.getD k 0) (-2048)) 2047)) = b := by rw [clip_same (by omega) zs hr.1]; exact unhide hb
    have HZ := hide hr.1
    have HR := hide (hr.grown (World.grownBy_alloc w (.cells #[.int .i64 0, .int .i64 0, .int .i64 0, .int .i64 0, .int .i64 0, .int .i64 0, .int .i64 0, .int .i64 0, .int .i64 0, .int .i64 0, .int .i64 0, .int .i64 0, .int .i64 0, .int .i64 0, .int .i64 0, .int .i64 0, .int .i64 0, .int .i64 0, .int .i64 0, .int .i64 0, .int .i64 0, .int .i64 0, .int .i64 0, .int .i64 0, .int .i64 0, .int .i64 0, .int .i64 0, .int .i64 0, .int .i64 0, .int .i64 0, .int .i64 0, .int .i64 0, .int .i64 0, .int .i64 0, .int .i64 0, .int .i64 0, .int .i64 0, .int .i64 0, .int .i64 0, .int .i64 0, .int .i64 0, .int .i64 0, .int .i64 0, .int .i64 0, .int .i64 0, .int .i64 0, .int .i64 0, .int .i64 0, .int .i64 0, .int .i64 0, .int .i64 0, .int .i64 0, .int .i64 0, .int .i64 0, .int .i64 0, .int .i64 0, .int .i64 0, .int .i64 0, .int .i64 0, .int .i64 0, .int .i64 0, .int .i64 0, .int .i64 0, .int .i64 0] 35) none))
    clear hr
    go_enter Tryd.func17, Tryd.ntmps17
    go_wp2_with fail
    refine (fixSquare_yes bb off cap zs _ (unhide HR) (fun k => min (max (zs.getD k 0) (-2048)) 2047) 28 #[] (enters_of Tryd.func28 (by kernel_rfl) rfl) (fun k hk W hW => (nearestSample (zs.getD k 0) W).mono ?_)).mono ?_
    · rintro e w' ⟨rfl, rfl⟩
      exact ⟨rfl, World.grownBy.refl _ _⟩
    · rintro e' w' ⟨rfl, g⟩
      rw [e]
      clear HR hb e
      have hB := (g.block w.heap.size (by simp) (by simp)).trans (heap_alloc_new w _)
      have HB := hide hB
      clear hB
      go_wp2_with (refine store_row rfl 35 _ _ rfl w.heap.size rfl (sq zs) rfl #[.int .i64 0, .int .i64 0, .int .i64 0, .int .i64 0, .int .i64 0, .int .i64 0, .int .i64 0, .int .i64 0, .int .i64 0, .int .i64 0, .int .i64 0, .int .i64 0, .int .i64 0, .int .i64 0, .int .i64 0, .int .i64 0, .int .i64 0, .int .i64 0, .int .i64 0, .int .i64 0, .int .i64 0, .int .i64 0, .int .i64 0, .int .i64 0, .int .i64 0, .int .i64 0, .int .i64 0, .int .i64 0, .int .i64 0, .int .i64 0, .int .i64 0, .int .i64 0, .int .i64 0, .int .i64 0, .int .i64 0, .int .i64 0, .int .i64 0, .int .i64 0, .int .i64 0, .int .i64 0, .int .i64 0, .int .i64 0, .int .i64 0, .int .i64 0, .int .i64 0, .int .i64 0, .int .i64 0, .int .i64 0, .int .i64 0, .int .i64 0, .int .i64 0, .int .i64 0, .int .i64 0, .int .i64 0, .int .i64 0, .int .i64 0, .int .i64 0, .int .i64 0, .int .i64 0, .int .i64 0, .int .i64 0, .int .i64 0, .int .i64 0, .int .i64 0] 35 (unhide HB) (by rw [sq_size, unhide HZ]; rfl) (by rw [sq_size, unhide HZ]; kernel_rfl) (sq_one _) ?_; intro w3 hB3 g3)
      refine bodyPost_ret (v := .tuple #[.agg (sq zs), .bool b]) ?_ rfl ⟨⟨_, rfl, (by first | exact unhide HZ | exact zs64_len), ?_⟩, ?_⟩
      · exact results_c2 (p := 2) (q := 3) (ty := 35) rfl _ _ _ w.heap.size rfl _ (run_loadVar_row w3 _ 35 35 _ (0, 0) _ hB3 Tryd.underlying35 rfl (by rw [sq_size, unhide HZ]; kernel_rfl))
      · intro hh; first | rfl | exact absurd hh h
      · exact grown_new (grown_new (World.grownBy_alloc _ _ _) g (fun g e => by simp at e)) g3 (fun g e => by simp at e; omega)
  · have hb' : b = false := by rw [← unhide hb]; simp [numsB, hr.1, h]
    subst hb'
    clear hr hb
    go_enter Tryd.func17, Tryd.ntmps17
    go_wp2_with fail
    refine (fixSquare_no ao n cap _ _ h).mono ?_
    rintro e' w' ⟨rfl, g⟩
    have hB := (g.block w.heap.size (by simp) (by simp)).trans (heap_alloc_new w _)
    have HB := hide hB
    clear hB
    go_wp2_with (refine store_row rfl 35 _ _ rfl w.heap.size rfl (sq zs64) rfl #[.int .i64 0, .int .i64 0, .int .i64 0, .int .i64 0, .int .i64 0, .int .i64 0, .int .i64 0, .int .i64 0, .int .i64 0, .int .i64 0, .int .i64 0, .int .i64 0, .int .i64 0, .int .i64 0, .int .i64 0, .int .i64 0, .int .i64 0, .int .i64 0, .int .i64 0, .int .i64 0, .int .i64 0, .int .i64 0, .int .i64 0, .int .i64 0, .int .i64 0, .int .i64 0, .int .i64 0, .int .i64 0, .int .i64 0, .int .i64 0, .int .i64 0, .int .i64 0, .int .i64 0, .int .i64 0, .int .i64 0, .int .i64 0, .int .i64 0, .int .i64 0, .int .i64 0, .int .i64 0, .int .i64 0, .int .i64 0, .int .i64 0, .int .i64 0, .int .i64 0, .int .i64 0, .int .i64 0, .int .i64 0, .int .i64 0, .int .i64 0, .int .i64 0, .int .i64 0, .int .i64 0, .int .i64 0, .int .i64 0, .int .i64 0, .int .i64 0, .int .i64 0, .int .i64 0, .int .i64 0, .int .i64 0, .int .i64 0, .int .i64 0, .int .i64 0] 35 (unhide HB) (by rw [sq_size, zs64_len]; rfl) (by rw [sq_size, zs64_len]; kernel_rfl) (sq_one _) ?_; intro w3 hB3 g3)
    refine bodyPost_ret (v := .tuple #[.agg (sq zs64), .bool false]) ?_ rfl ⟨⟨_, rfl, (by first | exact unhide HZ | exact zs64_len), ?_⟩, ?_⟩
    · exact results_c2 (p := 2) (q := 3) (ty := 35) rfl _ _ _ w.heap.size rfl _ (run_loadVar_row w3 _ 35 35 _ (0, 0) _ hB3 Tryd.underlying35 rfl (by rw [sq_size, zs64_len]; kernel_rfl))
    · intro hh; first | rfl | exact absurd hh h
    · exact grown_new (grown_new (World.grownBy_alloc _ _ _) g (fun g e => by simp at e)) g3 (fun g e => by simp at e; omega)

set_option maxHeartbeats 400000 in
theorem specSamplesOk (ao : Option Addr) (n cap : Nat) (zs : List Int) (w : World) (hr : Rd .i64 w ao n zs) (b : Bool) (hb : Hid (numsB (-2048) 2047 zs = b)) :
    Calls Tryd.prog 11 #[.slice ao n cap] w fun e w' => e = .returned (.bool b) ∧ w.grownBy w' none := by
  have HR := hide hr
  clear hr
  go_enter Tryd.func11, Tryd.ntmps11
  go_wp2_with fail
  refine (specNums ao n cap zs _ _ _ (unhide HR) b hb).mono ?_
  rintro e w1 ⟨rfl, g⟩
  go_wp2
  go_ret
  exact ⟨rfl, g⟩

end Go.Proofs.YtoeehfjbnbbijabDoor
