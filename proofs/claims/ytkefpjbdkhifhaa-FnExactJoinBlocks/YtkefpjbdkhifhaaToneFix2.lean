/-
  Planes of samples in the program: areas that fall into blocks, planes that are fixed, and remade (written by gen_tone2.py).
-/
import Derived.Test.YtkefpjbdkhifhaaToneFix
namespace Go.Proofs.Ytkefpjbdkhifhaa
open Go.RowKit

theorem tdiv8_in (w : Int) (h : -9223372036854775808 ≤ w ∧ w ≤ 9223372036854775807) : IntKind.i64.wrap (w.tdiv 8) = w.tdiv 8 := by
  apply i64_in
  by_cases h0 : 0 ≤ w
  · rw [Int.tdiv_eq_ediv_of_nonneg h0]
    omega
  · obtain ⟨u, rfl⟩ : ∃ u, w = -u := ⟨-w, by omega⟩
    rw [Int.neg_tdiv, Int.tdiv_eq_ediv_of_nonneg (by omega)]
    omega
theorem tmod8_in (w : Int) : IntKind.i64.wrap (w.tmod 8) = w.tmod 8 := by
  apply i64_in
  have h1 := Int.tmod_lt_of_pos w (show (0 : Int) < 8 by decide)
  have h2 := Int.lt_tmod_of_pos w (show (0 : Int) < 8 by decide)
  omega

set_option maxRecDepth 20000 in
set_option maxHeartbeats 1600000 in
theorem tiled (w h : Int) (t : Bool) (HT : Hid ((decide (w.tmod 8 = 0) && decide (h.tmod 8 = 0)) = t)) (W : World) :
    Calls Try.prog 56 #[.agg #[.int .i64 w, .int .i64 h]] W fun e W' => e = .returned (.tuple #[.agg #[.int .i64 (IntKind.i64.wrap (w.tdiv 8)), .int .i64 (IntKind.i64.wrap (h.tdiv 8))], .bool t]) ∧ W.grownBy W' none := by
  obtain ⟨a, ha⟩ : ∃ a, IntKind.i64.wrap (w.tdiv 8) = a := ⟨_, rfl⟩
  obtain ⟨b, hb⟩ : ∃ b, IntKind.i64.wrap (h.tdiv 8) = b := ⟨_, rfl⟩
  have m1 := tmod8_in w
  have m2 := tmod8_in h
  obtain ⟨p, hp⟩ : ∃ p, w.tmod 8 = p := ⟨_, rfl⟩
  obtain ⟨q, hq⟩ : ∃ q, h.tmod 8 = q := ⟨_, rfl⟩
  rw [hp, hq] at HT
  rw [ha, hb]
  rw [hp] at m1
  rw [hq] at m2
  obtain ⟨t1, h1⟩ : ∃ y, (p == 0) = y := ⟨_, rfl⟩
  obtain ⟨t2, h2⟩ : ∃ y, (q == 0) = y := ⟨_, rfl⟩
  have HTT : Hid ((t1 && t2) = t) := by unfold Hid; rw [← unhide HT, ← h1, ← h2]; congr 1 <;> simp [decide_beq_eq]
  obtain ⟨W3, hW3⟩ : ∃ W3, ((W.alloc (.cells #[.int .i64 w, .int .i64 h] 48)).alloc (.cells #[.int .i64 0, .int .i64 0] 48)).alloc (.cells #[.int .i64 a, .int .i64 b] 48) = W3 := ⟨_, rfl⟩
  have HG3 : Hid (W.grownBy W3 none) := by rw [← hW3]; exact grown_alloc (grown_alloc (World.grownBy_alloc _ _ _) _) _
  have b0 : Hid (W3.heap[W.heap.size]? = some (.cells #[.int .i64 w, .int .i64 h] 48 (0, 0))) := by rw [← hW3, Below.heap_alloc _ _ _ (by simp <;> omega), Below.heap_alloc _ _ _ (by simp)]; exact heap_alloc_new W _
  have b1 : Hid (W3.heap[W.heap.size + 1]? = some (.cells #[.int .i64 0, .int .i64 0] 48 (0, 0))) := by
    rw [← hW3, Below.heap_alloc _ _ _ (by simp)]
    have := heap_alloc_new (W.alloc (.cells #[.int .i64 w, .int .i64 h] 48)) (.cells #[.int .i64 0, .int .i64 0] 48)
    unfold Hid
    simpa using this
  have b2 : Hid (W3.heap[W.heap.size + 1 + 1]? = some (.cells #[.int .i64 a, .int .i64 b] 48 (0, 0))) := by
    rw [← hW3]
    have := heap_alloc_new ((W.alloc (.cells #[.int .i64 w, .int .i64 h] 48)).alloc (.cells #[.int .i64 0, .int .i64 0] 48)) (.cells #[.int .i64 a, .int .i64 b] 48)
    unfold Hid
    simpa using this
  have HW := hide hW3
  clear hW3 HT
  go_enter Try.func56, Try.ntmps56
  go_wp2
  rw [unhide HW]
  clear HW
  cases t1 with
  | false =>
    obtain rfl : t = false := by rw [← unhide HTT]; rfl
    generalize hs0 : W.heap.size = s0 at *
    refine wp_region_noPanic ?_
    refine wp_region_tail (fun W => W.heap[s0]? = some (.cells #[.int .i64 w, .int .i64 h] 48 (0, 0)) ∧ W.heap[s0 + 1 + 1]? = some (.cells #[.int .i64 a, .int .i64 b] 48 (0, 0))) [true, true, true, true, true, true, true, true, true, true, true, false, false] (by kernel_rfl) (fun _ _ _ _ _ h => h) rfl (by kernel_rfl) ⟨unhide b0, unhide b2⟩ ?_
    refine heldF_take (v := .agg #[.int .i64 a, .int .i64 b]) (Or.inl ⟨by rfl, ?_⟩) ?_
    · intro w' hSw
      exact exec_row 48 _ rfl (s0 + 1 + 1) rfl _ _ hSw.2 _ Try.underlying48 rfl (by kernel_rfl)
    try simp only [Act.put, List.setIfInBounds_toArray, List.set_cons_zero, List.set_cons_succ]
    refine heldF_take (v := ?_) (Or.inl ⟨by rfl, ?_⟩) ?_
    rotate_left 1
    · intro w' hSw
      have k0 : w'.cell? ⟨s0, 0, none⟩ = some (.int .i64 w) := by rw [cell_of_row w' _ 0 _ _ (0, 0) hSw.1]; rfl
      have k1 : w'.cell? ⟨s0, 1, none⟩ = some (.int .i64 h) := by rw [cell_of_row w' _ 1 _ _ (0, 0) hSw.1]; rfl
      go_simp
      try with_reducible rfl
    try simp only [Act.put, List.setIfInBounds_toArray, List.set_cons_zero, List.set_cons_succ]
    refine heldF_take (v := ?_) (Or.inl ⟨by rfl, ?_⟩) ?_
    rotate_left 1
    · intro w' hSw
      have k0 : w'.cell? ⟨s0, 0, none⟩ = some (.int .i64 w) := by rw [cell_of_row w' _ 0 _ _ (0, 0) hSw.1]; rfl
      have k1 : w'.cell? ⟨s0, 1, none⟩ = some (.int .i64 h) := by rw [cell_of_row w' _ 1 _ _ (0, 0) hSw.1]; rfl
      go_simp
      try with_reducible rfl
    try simp only [Act.put, List.setIfInBounds_toArray, List.set_cons_zero, List.set_cons_succ]
    refine heldF_take (v := ?_) (Or.inl ⟨by rfl, ?_⟩) ?_
    rotate_left 1
    · intro w' hSw
      have k0 : w'.cell? ⟨s0, 0, none⟩ = some (.int .i64 w) := by rw [cell_of_row w' _ 0 _ _ (0, 0) hSw.1]; rfl
      have k1 : w'.cell? ⟨s0, 1, none⟩ = some (.int .i64 h) := by rw [cell_of_row w' _ 1 _ _ (0, 0) hSw.1]; rfl
      go_simp
      try with_reducible rfl
    try simp only [Act.put, List.setIfInBounds_toArray, List.set_cons_zero, List.set_cons_succ]
    refine heldF_take (v := ?_) (Or.inl ⟨by rfl, ?_⟩) ?_
    rotate_left 1
    · intro w' hSw
      have k0 : w'.cell? ⟨s0, 0, none⟩ = some (.int .i64 w) := by rw [cell_of_row w' _ 0 _ _ (0, 0) hSw.1]; rfl
      have k1 : w'.cell? ⟨s0, 1, none⟩ = some (.int .i64 h) := by rw [cell_of_row w' _ 1 _ _ (0, 0) hSw.1]; rfl
      go_simp
      try with_reducible rfl
    try simp only [Act.put, List.setIfInBounds_toArray, List.set_cons_zero, List.set_cons_succ]
    refine heldF_take (v := ?_) (Or.inl ⟨by rfl, ?_⟩) ?_
    rotate_left 1
    · intro w' hSw
      have k0 : w'.cell? ⟨s0, 0, none⟩ = some (.int .i64 w) := by rw [cell_of_row w' _ 0 _ _ (0, 0) hSw.1]; rfl
      have k1 : w'.cell? ⟨s0, 1, none⟩ = some (.int .i64 h) := by rw [cell_of_row w' _ 1 _ _ (0, 0) hSw.1]; rfl
      go_simp
      try with_reducible rfl
    try simp only [Act.put, List.setIfInBounds_toArray, List.set_cons_zero, List.set_cons_succ]
    refine heldF_take (v := undef) (Or.inr ⟨by rfl, rfl⟩) ?_
    try simp only [Act.put, List.setIfInBounds_toArray, List.set_cons_zero, List.set_cons_succ]
    refine heldF_take (v := undef) (Or.inr ⟨by rfl, rfl⟩) ?_
    try simp only [Act.put, List.setIfInBounds_toArray, List.set_cons_zero, List.set_cons_succ]
    refine heldF_take (v := undef) (Or.inr ⟨by rfl, rfl⟩) ?_
    try simp only [Act.put, List.setIfInBounds_toArray, List.set_cons_zero, List.set_cons_succ]
    refine heldF_take (v := undef) (Or.inr ⟨by rfl, rfl⟩) ?_
    try simp only [Act.put, List.setIfInBounds_toArray, List.set_cons_zero, List.set_cons_succ]
    refine heldF_take (v := ?_) (Or.inl ⟨by rfl, ?_⟩) ?_
    rotate_left 1
    · intro w' hSw
      have k0 : w'.cell? ⟨s0, 0, none⟩ = some (.int .i64 w) := by rw [cell_of_row w' _ 0 _ _ (0, 0) hSw.1]; rfl
      have k1 : w'.cell? ⟨s0, 1, none⟩ = some (.int .i64 h) := by rw [cell_of_row w' _ 1 _ _ (0, 0) hSw.1]; rfl
      go_simp
      try with_reducible rfl
    try simp only [Act.put, List.setIfInBounds_toArray, List.set_cons_zero, List.set_cons_succ]
    refine heldF_skip ?_
    refine heldF_skip ?_
    refine heldF_nil ?_
    refine tailF_skip ?_
    refine tailF_skip ?_
    refine tailF_skip ?_
    refine tailF_skip ?_
    refine tailF_skip ?_
    refine tailF_skip ?_
    refine tailF_skip ?_
    refine tailF_skip ?_
    refine tailF_skip ?_
    refine tailF_skip ?_
    refine tailF_skip ?_
    refine tailF_step (fun K hK => ?_)
    refine step_store_row (by rfl) 48 _ _ rfl (s0 + 1) rfl #[.int .i64 a, .int .i64 b] rfl _ 48 (show W3.drew.heap[s0 + 1]? = _ from unhide b1) rfl (by kernel_rfl) (by simp [Value.oneCell']) ?_
    intro w5 hB5 g5
    have S5 : w5.heap[s0]? = some (.cells #[.int .i64 w, .int .i64 h] 48 (0, 0)) ∧ w5.heap[s0 + 1 + 1]? = some (.cells #[.int .i64 a, .int .i64 b] 48 (0, 0)) := ⟨grown_atG g5 (unhide b0) (by simp), grown_atG g5 (unhide b2) (by simp)⟩
    refine hK.out _ _ S5 ?_
    clear hK K
    try simp only [Act.put]
    refine tailF_step (fun K hK => ?_)
    go_simp
    refine hK.out _ _ S5 ?_
    clear hK K
    try simp only [Act.put, List.setIfInBounds_toArray, List.set_cons_zero, List.set_cons_succ]
    refine tailF_nil (NoPanic.normal ?_)
    try simp only [Act.put]
    go_wp2
    refine bodyPost_ret (v := .tuple #[.agg #[.int .i64 a, .int .i64 b], .bool false]) ?_ rfl ⟨rfl, ?_⟩
    · exact results_c2 (p := 2) (q := 3) (ty := 48) rfl _ _ _ (s0 + 1) rfl _ (run_loadVar_row w5 _ 48 48 _ (0, 0) _ hB5 Try.underlying48 rfl (by kernel_rfl))
    exact grown_new (grown_drew (unhide HG3)) g5 (fun g e => by simp at e; omega)
  | true =>
    obtain rfl : t = t2 := by rw [← unhide HTT]; rfl
    generalize hs0 : W.heap.size = s0 at *
    refine wp_region_noPanic ?_
    refine wp_region_tail (fun W => W.heap[s0]? = some (.cells #[.int .i64 w, .int .i64 h] 48 (0, 0)) ∧ W.heap[s0 + 1 + 1]? = some (.cells #[.int .i64 a, .int .i64 b] 48 (0, 0))) [true, true, true, true, true, true, true, true, true, true, true, false, false] (by kernel_rfl) (fun _ _ _ _ _ h => h) rfl (by kernel_rfl) ⟨unhide b0, unhide b2⟩ ?_
    refine heldF_take (v := .agg #[.int .i64 a, .int .i64 b]) (Or.inl ⟨by rfl, ?_⟩) ?_
    · intro w' hSw
      exact exec_row 48 _ rfl (s0 + 1 + 1) rfl _ _ hSw.2 _ Try.underlying48 rfl (by kernel_rfl)
    try simp only [Act.put, List.setIfInBounds_toArray, List.set_cons_zero, List.set_cons_succ]
    refine heldF_take (v := ?_) (Or.inl ⟨by rfl, ?_⟩) ?_
    rotate_left 1
    · intro w' hSw
      have k0 : w'.cell? ⟨s0, 0, none⟩ = some (.int .i64 w) := by rw [cell_of_row w' _ 0 _ _ (0, 0) hSw.1]; rfl
      have k1 : w'.cell? ⟨s0, 1, none⟩ = some (.int .i64 h) := by rw [cell_of_row w' _ 1 _ _ (0, 0) hSw.1]; rfl
      go_simp
      try with_reducible rfl
    try simp only [Act.put, List.setIfInBounds_toArray, List.set_cons_zero, List.set_cons_succ]
    refine heldF_take (v := ?_) (Or.inl ⟨by rfl, ?_⟩) ?_
    rotate_left 1
    · intro w' hSw
      have k0 : w'.cell? ⟨s0, 0, none⟩ = some (.int .i64 w) := by rw [cell_of_row w' _ 0 _ _ (0, 0) hSw.1]; rfl
      have k1 : w'.cell? ⟨s0, 1, none⟩ = some (.int .i64 h) := by rw [cell_of_row w' _ 1 _ _ (0, 0) hSw.1]; rfl
      go_simp
      try with_reducible rfl
    try simp only [Act.put, List.setIfInBounds_toArray, List.set_cons_zero, List.set_cons_succ]
    refine heldF_take (v := ?_) (Or.inl ⟨by rfl, ?_⟩) ?_
    rotate_left 1
    · intro w' hSw
      have k0 : w'.cell? ⟨s0, 0, none⟩ = some (.int .i64 w) := by rw [cell_of_row w' _ 0 _ _ (0, 0) hSw.1]; rfl
      have k1 : w'.cell? ⟨s0, 1, none⟩ = some (.int .i64 h) := by rw [cell_of_row w' _ 1 _ _ (0, 0) hSw.1]; rfl
      go_simp
      try with_reducible rfl
    try simp only [Act.put, List.setIfInBounds_toArray, List.set_cons_zero, List.set_cons_succ]
    refine heldF_take (v := ?_) (Or.inl ⟨by rfl, ?_⟩) ?_
    rotate_left 1
    · intro w' hSw
      have k0 : w'.cell? ⟨s0, 0, none⟩ = some (.int .i64 w) := by rw [cell_of_row w' _ 0 _ _ (0, 0) hSw.1]; rfl
      have k1 : w'.cell? ⟨s0, 1, none⟩ = some (.int .i64 h) := by rw [cell_of_row w' _ 1 _ _ (0, 0) hSw.1]; rfl
      go_simp
      try with_reducible rfl
    try simp only [Act.put, List.setIfInBounds_toArray, List.set_cons_zero, List.set_cons_succ]
    refine heldF_take (v := ?_) (Or.inl ⟨by rfl, ?_⟩) ?_
    rotate_left 1
    · intro w' hSw
      have k0 : w'.cell? ⟨s0, 0, none⟩ = some (.int .i64 w) := by rw [cell_of_row w' _ 0 _ _ (0, 0) hSw.1]; rfl
      have k1 : w'.cell? ⟨s0, 1, none⟩ = some (.int .i64 h) := by rw [cell_of_row w' _ 1 _ _ (0, 0) hSw.1]; rfl
      go_simp
      try with_reducible rfl
    try simp only [Act.put, List.setIfInBounds_toArray, List.set_cons_zero, List.set_cons_succ]
    refine heldF_take (v := ?_) (Or.inl ⟨by rfl, ?_⟩) ?_
    rotate_left 1
    · intro w' hSw
      have k0 : w'.cell? ⟨s0, 0, none⟩ = some (.int .i64 w) := by rw [cell_of_row w' _ 0 _ _ (0, 0) hSw.1]; rfl
      have k1 : w'.cell? ⟨s0, 1, none⟩ = some (.int .i64 h) := by rw [cell_of_row w' _ 1 _ _ (0, 0) hSw.1]; rfl
      go_simp
      try with_reducible rfl
    try simp only [Act.put, List.setIfInBounds_toArray, List.set_cons_zero, List.set_cons_succ]
    refine heldF_take (v := ?_) (Or.inl ⟨by rfl, ?_⟩) ?_
    rotate_left 1
    · intro w' hSw
      have k0 : w'.cell? ⟨s0, 0, none⟩ = some (.int .i64 w) := by rw [cell_of_row w' _ 0 _ _ (0, 0) hSw.1]; rfl
      have k1 : w'.cell? ⟨s0, 1, none⟩ = some (.int .i64 h) := by rw [cell_of_row w' _ 1 _ _ (0, 0) hSw.1]; rfl
      go_simp
      try with_reducible rfl
    try simp only [Act.put, List.setIfInBounds_toArray, List.set_cons_zero, List.set_cons_succ]
    refine heldF_take (v := ?_) (Or.inl ⟨by rfl, ?_⟩) ?_
    rotate_left 1
    · intro w' hSw
      have k0 : w'.cell? ⟨s0, 0, none⟩ = some (.int .i64 w) := by rw [cell_of_row w' _ 0 _ _ (0, 0) hSw.1]; rfl
      have k1 : w'.cell? ⟨s0, 1, none⟩ = some (.int .i64 h) := by rw [cell_of_row w' _ 1 _ _ (0, 0) hSw.1]; rfl
      go_simp
      try with_reducible rfl
    try simp only [Act.put, List.setIfInBounds_toArray, List.set_cons_zero, List.set_cons_succ]
    refine heldF_take (v := ?_) (Or.inl ⟨by rfl, ?_⟩) ?_
    rotate_left 1
    · intro w' hSw
      have k0 : w'.cell? ⟨s0, 0, none⟩ = some (.int .i64 w) := by rw [cell_of_row w' _ 0 _ _ (0, 0) hSw.1]; rfl
      have k1 : w'.cell? ⟨s0, 1, none⟩ = some (.int .i64 h) := by rw [cell_of_row w' _ 1 _ _ (0, 0) hSw.1]; rfl
      go_simp
      try with_reducible rfl
    try simp only [Act.put, List.setIfInBounds_toArray, List.set_cons_zero, List.set_cons_succ]
    refine heldF_take (v := ?_) (Or.inl ⟨by rfl, ?_⟩) ?_
    rotate_left 1
    · intro w' hSw
      have k0 : w'.cell? ⟨s0, 0, none⟩ = some (.int .i64 w) := by rw [cell_of_row w' _ 0 _ _ (0, 0) hSw.1]; rfl
      have k1 : w'.cell? ⟨s0, 1, none⟩ = some (.int .i64 h) := by rw [cell_of_row w' _ 1 _ _ (0, 0) hSw.1]; rfl
      go_simp
      try with_reducible rfl
    try simp only [Act.put, List.setIfInBounds_toArray, List.set_cons_zero, List.set_cons_succ]
    refine heldF_skip ?_
    refine heldF_skip ?_
    refine heldF_nil ?_
    refine tailF_skip ?_
    refine tailF_skip ?_
    refine tailF_skip ?_
    refine tailF_skip ?_
    refine tailF_skip ?_
    refine tailF_skip ?_
    refine tailF_skip ?_
    refine tailF_skip ?_
    refine tailF_skip ?_
    refine tailF_skip ?_
    refine tailF_skip ?_
    refine tailF_step (fun K hK => ?_)
    refine step_store_row (by rfl) 48 _ _ rfl (s0 + 1) rfl #[.int .i64 a, .int .i64 b] rfl _ 48 (show W3.drew.heap[s0 + 1]? = _ from unhide b1) rfl (by kernel_rfl) (by simp [Value.oneCell']) ?_
    intro w5 hB5 g5
    have S5 : w5.heap[s0]? = some (.cells #[.int .i64 w, .int .i64 h] 48 (0, 0)) ∧ w5.heap[s0 + 1 + 1]? = some (.cells #[.int .i64 a, .int .i64 b] 48 (0, 0)) := ⟨grown_atG g5 (unhide b0) (by simp), grown_atG g5 (unhide b2) (by simp)⟩
    refine hK.out _ _ S5 ?_
    clear hK K
    try simp only [Act.put]
    refine tailF_step (fun K hK => ?_)
    go_simp
    refine hK.out _ _ S5 ?_
    clear hK K
    try simp only [Act.put, List.setIfInBounds_toArray, List.set_cons_zero, List.set_cons_succ]
    refine tailF_nil (NoPanic.normal ?_)
    try simp only [Act.put]
    go_wp2
    refine bodyPost_ret (v := .tuple #[.agg #[.int .i64 a, .int .i64 b], .bool t]) ?_ rfl ⟨rfl, ?_⟩
    · exact results_c2 (p := 2) (q := 3) (ty := 48) rfl _ _ _ (s0 + 1) rfl _ (run_loadVar_row w5 _ 48 48 _ (0, 0) _ hB5 Try.underlying48 rfl (by kernel_rfl))
    exact grown_new (grown_drew (unhide HG3)) g5 (fun g e => by simp at e; omega)

/-- What fixTones answers: a plane with its samples, or none that counts. -/
def Fixed (W W' : World) (zs : List Int) (w h : Int) (b : Bool) (v : Value) : Prop :=
  (b = true ∧ ∃ (wd ht g n : Nat), w = (wd : Int) ∧ h = (ht : Int) ∧ wd * ht = n ∧ v = .agg #[.int .i64 (wd : Int), .int .i64 (ht : Int), .slice (some ⟨g, 0, none⟩) n n] ∧ Blk .u16 73 W' g zs ∧ W.heap.size ≤ g) ∨
  (b = false ∧ ∃ (a c : Int) (so : Option Addr) (sn sc : Nat), v = .agg #[.int .i64 a, .int .i64 c, .slice so sn sc] ∧ (0 ≤ a ∧ a ≤ 1024) ∧ (0 ≤ c ∧ c ≤ 1024))

set_option maxRecDepth 20000 in
set_option maxHeartbeats 1600000 in
theorem fixTones (ao : Option Addr) (m cap : Nat) (zs : List Int) (w h : Int) (W : World) (hr : Rd .i64 W ao m zs) (hm : m ≤ 9223372036854775807) (b : Bool) (HB : Hid (planeB zs w h = b)) :
    Calls Try.prog 55 #[.slice ao m cap, .agg #[.int .i64 w, .int .i64 h]] W fun e W' => (∃ v, e = .returned (.tuple #[v, .bool b]) ∧ Fixed W W' zs w h b v) ∧ W.grownBy W' none := by
  have HR := hide hr
  have HZ := hide hr.1
  obtain ⟨s, HS⟩ : ∃ y, Hid (sidesB w h = y) := ⟨_, rfl⟩
  clear hr
  obtain ⟨W0, hW0⟩ : ∃ W0, (W.alloc (.cells #[.int .i64 w, .int .i64 h] 48)).alloc (.cells #[.int .i64 0, .int .i64 0, .slice none 0 0] 57) = W0 := ⟨_, rfl⟩
  have HG0 : Hid (W.grownBy W0 none) := by rw [← hW0]; exact grown_alloc (World.grownBy_alloc _ _ _) _
  have b0 : Hid (W0.heap[W.heap.size]? = some (.cells #[.int .i64 w, .int .i64 h] 48 (0, 0))) := by rw [← hW0, Below.heap_alloc _ _ _ (by simp)]; exact heap_alloc_new W _
  have b1 : Hid (W0.heap[W.heap.size + 1]? = some (.cells #[.int .i64 0, .int .i64 0, .slice none 0 0] 57 (0, 0))) := by
    rw [← hW0]
    have := heap_alloc_new (W.alloc (.cells #[.int .i64 w, .int .i64 h] 48)) (.cells #[.int .i64 0, .int .i64 0, .slice none 0 0] 57)
    unfold Hid
    simpa using this
  have HS0 : Hid (W0.heap.size = W.heap.size + 2) := by rw [← hW0]; simp [Hid]
  have HW := hide hW0
  clear hW0
  have FAILS : Hid (∀ (w1 : World), W0.grownBy w1 none → w1.heap[W.heap.size + 1]? = some (.cells #[.int .i64 0, .int .i64 0, .slice none 0 0] 57 (0, 0))) := fun w1 g1 => grown_atG g1 (unhide b1) (by simp)
  go_enter Try.func55, Try.ntmps55
  go_wp2_with fail
  rw [unhide HW]
  refine (isPlane w h s HS W0).mono ?_
  rintro e w1 ⟨rfl, g1⟩
  have k0 : w1.cell? ⟨W.heap.size, 0, none⟩ = some (.int .i64 w) := by rw [cell_of_row w1 _ 0 _ _ (0, 0) (grown_atG g1 (unhide b0) (by simp))]; rfl
  have k1 : w1.cell? ⟨W.heap.size, 1, none⟩ = some (.int .i64 h) := by rw [cell_of_row w1 _ 1 _ _ (0, 0) (grown_atG g1 (unhide b0) (by simp))]; rfl
  have G1 := hide g1
  clear HW
  cases s with
  | false =>
    obtain rfl : b = false := by rw [← unhide HB, planeB, unhide HS]; rfl
    have BZ := hide (unhide FAILS w1 g1)
    clear g1
    go_wp2_with ((refine store_row rfl 57 _ _ rfl (W.heap.size + 1) rfl #[.int .i64 0, .int .i64 0, .slice none 0 0] rfl _ 57 (unhide BZ) rfl (by kernel_rfl) (by simp [Value.oneCell']) ?_; intro w5 hB5 g5))
    refine bodyPost_ret (v := .tuple #[.agg #[.int .i64 0, .int .i64 0, .slice none 0 0], .bool false]) ?_ rfl ⟨⟨_, rfl, .inr ⟨rfl, 0, 0, _, _, _, rfl, by omega, by omega⟩⟩, ?_⟩
    · exact results_c2 (p := 4) (q := 5) (ty := 57) rfl _ _ _ (W.heap.size + 1) rfl _ (run_loadVar_row w5 _ 57 57 _ (0, 0) _ hB5 Try.underlying57 rfl (by kernel_rfl))
    exact grown_new (grown_trans (unhide HG0) (unhide G1)) g5 (fun g e => by simp at e; omega)
  | true =>
    obtain ⟨hw, hh, hwh⟩ := sides_of (unhide HS)
    clear g1
    go_wp2_with fail
    refine (areaCount w h (by omega) (by omega) w1).mono ?_
    rintro e w2 ⟨rfl, g2⟩
    have G2 := hide (grown_trans (unhide G1) g2)
    obtain ⟨p, HPR⟩ : ∃ p, Hid (w * h = p) := ⟨_, rfl⟩
    rw [unhide HPR] at hwh ⊢
    have k0' := g2.cell k0 (by simp)
    have k1' := g2.cell k1 (by simp)
    clear k0 k1 g2 G1
    by_cases hl : ¬ (m : Int) = p
    · obtain rfl : b = false := by
        rw [← unhide HB, planeB, unhide HS, unhide HZ, unhide HPR, decide_eq_false hl]; rfl
      have e2 : ((m : Int) != p) = true := by simpa using hl
      have BZ := hide (unhide FAILS w2 (unhide G2))
      clear hl
      go_wp2_with ((refine store_row rfl 57 _ _ rfl (W.heap.size + 1) rfl #[.int .i64 0, .int .i64 0, .slice none 0 0] rfl _ 57 (unhide BZ) rfl (by kernel_rfl) (by simp [Value.oneCell']) ?_; intro w5 hB5 g5))
      refine bodyPost_ret (v := .tuple #[.agg #[.int .i64 0, .int .i64 0, .slice none 0 0], .bool false]) ?_ rfl ⟨⟨_, rfl, .inr ⟨rfl, 0, 0, _, _, _, rfl, by omega, by omega⟩⟩, ?_⟩
      · exact results_c2 (p := 4) (q := 5) (ty := 57) rfl _ _ _ (W.heap.size + 1) rfl _ (run_loadVar_row w5 _ 57 57 _ (0, 0) _ hB5 Try.underlying57 rfl (by kernel_rfl))
      exact grown_new (grown_trans (unhide HG0) (unhide G2)) g5 (fun g e => by simp at e; omega)
    have e2 : ((m : Int) != p) = false := by simp; omega
    have hmp : (m : Int) = p := by omega
    obtain ⟨wd, rfl⟩ : ∃ k : Nat, w = (k : Int) := ⟨w.toNat, by omega⟩
    obtain ⟨ht, rfl⟩ : ∃ k : Nat, h = (k : Int) := ⟨h.toNat, by omega⟩
    have HN : Hid (wd * ht = m) := by have := unhide HPR; unfold Hid; rw [← hmp] at this; exact_mod_cast this
    have HMB : Hid (m ≤ 131072) := by unfold Hid; omega
    have HBZ : Hid ((zs.all fun x => decide (0 ≤ x ∧ x ≤ 4095)) = b) := by
      unfold Hid
      rw [← unhide HB, planeB, unhide HS, unhide HZ, unhide HPR, decide_eq_true hmp]
      simp
    have HMP := hide hmp
    clear hl hmp HB HS
    go_wp2_with fail
    refine (newTones wd ht m (by omega) (by omega) HN w2).mono ?_
    rintro e w3 ⟨g, rfl, hB3, hge, g3⟩
    have HB3 := hide hB3
    have G3 := hide (grown_trans (unhide G2) g3)
    have HGE : Hid (W.heap.size + 2 ≤ g) := by have h1 := (unhide G2).size; have h2 := unhide HS0; unfold Hid; omega
    have HGL : Hid (g < w3.heap.size) := hB3.lt
    clear hB3 g3 hge k0' k1' G2
    obtain ⟨W4, hW4⟩ : ∃ W4, w3.alloc (.cells #[.int .i64 (wd : Int), .int .i64 (ht : Int), .slice (some ⟨g, 0, none⟩) m m] 57) = W4 := ⟨_, rfl⟩
    have G4 : Hid (W0.grownBy W4 none) := by rw [← hW4]; exact grown_alloc (unhide G3) _
    have HB4 : Hid (Blk .u16 73 W4 g (List.replicate m 0)) := by rw [← hW4]; exact (unhide HB3).grown (World.grownBy_alloc _ _ _)
    have b6 : Hid (W4.heap[w3.heap.size]? = some (.cells #[.int .i64 (wd : Int), .int .i64 (ht : Int), .slice (some ⟨g, 0, none⟩) m m] 57 (0, 0))) := by rw [← hW4]; exact heap_alloc_new w3 _
    have HW4 := hide hW4
    clear hW4 HB3 G3
    go_wp2
    rw [unhide HW4]
    clear HW4
    generalize hs6 : w3.heap.size = s6 at *
    have HS6 := hide hs6
    clear hs6
    refine wp_region_noPanic ?_
    refine wp_region_tail (fun W => W.heap[s6]? = some (.cells #[.int .i64 (wd : Int), .int .i64 (ht : Int), .slice (some ⟨g, 0, none⟩) m m] 57 (0, 0))) [true, true, true, true, true, false, false, false] (by kernel_rfl) (fun _ _ _ _ _ h => h) rfl (by kernel_rfl) (show W4.drew.heap[s6]? = _ from unhide b6) ?_
    have G4X : Hid (W0.grownBy W4.drew none) := grown_drew (unhide G4)
    have HB4X : Hid (Blk .u16 73 W4.drew g (List.replicate m 0)) := unhide HB4
    have b6X : Hid (W4.drew.heap[s6]? = some (.cells #[.int .i64 (wd : Int), .int .i64 (ht : Int), .slice (some ⟨g, 0, none⟩) m m] 57 (0, 0))) := unhide b6
    generalize W4.drew = W4x at *
    clear G4 HB4 b6 W4
    refine heldF_take (v := .agg #[.int .i64 (wd : Int), .int .i64 (ht : Int), .slice (some ⟨g, 0, none⟩) m m]) (Or.inl ⟨by rfl, ?_⟩) ?_
    · intro w' hSw
      exact exec_row 57 _ rfl s6 rfl _ _ hSw _ Try.underlying57 rfl (by kernel_rfl)
    try simp only [Act.put, List.setIfInBounds_toArray, List.set_cons_zero, List.set_cons_succ]
    refine heldF_take (v := ?_) (Or.inl ⟨by rfl, ?_⟩) ?_
    rotate_left 1
    · intro w' hSw
      have k2 : w'.cell? ⟨s6, 2, none⟩ = some (.slice (some ⟨g, 0, none⟩) m m) := by rw [cell_of_row w' _ 2 _ _ (0, 0) hSw]; rfl
      go_simp
      try with_reducible rfl
    try simp only [Act.put, List.setIfInBounds_toArray, List.set_cons_zero, List.set_cons_succ]
    refine heldF_take (v := ?_) (Or.inl ⟨by rfl, ?_⟩) ?_
    rotate_left 1
    · intro w' hSw
      have k2 : w'.cell? ⟨s6, 2, none⟩ = some (.slice (some ⟨g, 0, none⟩) m m) := by rw [cell_of_row w' _ 2 _ _ (0, 0) hSw]; rfl
      go_simp
      try with_reducible rfl
    try simp only [Act.put, List.setIfInBounds_toArray, List.set_cons_zero, List.set_cons_succ]
    refine heldF_take (v := ?_) (Or.inl ⟨by rfl, ?_⟩) ?_
    rotate_left 1
    · intro w' hSw
      have k2 : w'.cell? ⟨s6, 2, none⟩ = some (.slice (some ⟨g, 0, none⟩) m m) := by rw [cell_of_row w' _ 2 _ _ (0, 0) hSw]; rfl
      go_simp
      try with_reducible rfl
    try simp only [Act.put, List.setIfInBounds_toArray, List.set_cons_zero, List.set_cons_succ]
    refine heldF_take (v := ?_) (Or.inl ⟨by rfl, ?_⟩) ?_
    rotate_left 1
    · intro w' hSw
      have k2 : w'.cell? ⟨s6, 2, none⟩ = some (.slice (some ⟨g, 0, none⟩) m m) := by rw [cell_of_row w' _ 2 _ _ (0, 0) hSw]; rfl
      go_simp
      try with_reducible rfl
    try simp only [Act.put, List.setIfInBounds_toArray, List.set_cons_zero, List.set_cons_succ]
    refine heldF_skip ?_
    refine heldF_skip ?_
    refine heldF_skip ?_
    refine heldF_nil ?_
    refine tailF_skip ?_
    refine tailF_skip ?_
    refine tailF_skip ?_
    refine tailF_skip ?_
    refine tailF_skip ?_
    refine tailF_step (fun K hK => ?_)
    go_simp
    refine (putTones 73 g m cap ao zs W4x ((unhide HR).grown (grown_trans (unhide HG0) (unhide G4X))) (unhide HB4X) (fun hm b off e => by have := (unhide HR).lt hm b off e; have := unhide HGE; omega) (by have := unhide HMB; omega) b HBZ).mono ?_
    rintro e w5 ⟨rfl, hP5, g5⟩
    have HP5 := hide hP5
    have S5 : w5.heap[s6]? = some (.cells #[.int .i64 (wd : Int), .int .i64 (ht : Int), .slice (some ⟨g, 0, none⟩) m m] 57 (0, 0)) := grown_atG g5 (unhide b6X) (by have := unhide HGL; simp; omega)
    clear hP5
    refine hK.out _ _ S5 ?_
    clear hK K
    try simp only [Act.put, List.setIfInBounds_toArray, List.set_cons_zero, List.set_cons_succ]
    refine tailF_step (fun K hK => ?_)
    refine step_store_row (by rfl) 57 _ _ rfl (W.heap.size + 1) rfl #[.int .i64 (wd : Int), .int .i64 (ht : Int), .slice (some ⟨g, 0, none⟩) m m] rfl _ 57 (grown_atG g5 (unhide FAILS W4x (unhide G4X)) (by have := unhide HGE; simp; omega)) rfl (by kernel_rfl) (by simp [Value.oneCell']) ?_
    intro w6 hB6 g6
    have hs3 := (unhide G4X).size
    have S6 : w6.heap[s6]? = some (.cells #[.int .i64 (wd : Int), .int .i64 (ht : Int), .slice (some ⟨g, 0, none⟩) m m] 57 (0, 0)) := grown_atG g6 S5 (by have := unhide HGL; have := unhide HGE; simp; omega)
    clear hs3
    refine hK.out _ _ S6 ?_
    clear hK K
    try simp only [Act.put]
    refine tailF_step (fun K hK => ?_)
    go_simp
    refine hK.out _ _ S6 ?_
    clear hK K
    try simp only [Act.put, List.setIfInBounds_toArray, List.set_cons_zero, List.set_cons_succ]
    refine tailF_nil (NoPanic.normal ?_)
    try simp only [Act.put]
    obtain ⟨L', hl', hb', hz'⟩ := unhide HP5
    have hgn := unhide HGE
    go_wp2
    refine bodyPost_ret (v := .tuple #[.agg #[.int .i64 (wd : Int), .int .i64 (ht : Int), .slice (some ⟨g, 0, none⟩) m m], .bool b]) ?_ rfl ⟨⟨_, rfl, ?_⟩, ?_⟩
    · exact results_c2 (p := 4) (q := 5) (ty := 57) rfl _ _ _ (W.heap.size + 1) rfl _ (run_loadVar_row w6 _ 57 57 _ (0, 0) _ hB6 Try.underlying57 rfl (by kernel_rfl))
    · cases b with
      | false => exact .inr ⟨rfl, _, _, _, _, _, rfl, by omega, by omega⟩
      | true =>
        obtain rfl := hz' rfl
        exact .inl ⟨rfl, wd, ht, g, m, rfl, rfl, unhide HN, rfl, hb'.beside g6 (by simp; omega), by omega⟩
    · exact grown_new (grown_new (grown_trans (unhide HG0) (unhide G4X)) g5 (fun q e => by simp at e; omega)) g6 (fun q e => by simp at e; omega)

end Go.Proofs.Ytkefpjbdkhifhaa
