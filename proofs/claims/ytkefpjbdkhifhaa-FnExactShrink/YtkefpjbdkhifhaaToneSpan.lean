/-
  Spans in the program (written by gen_tone4.py).
-/
import Derived.Test.YtkefpjbdkhifhaaToneMake
namespace Go.Proofs.Ytkefpjbdkhifhaa
open Go.RowKit

theorem divUp16 (n d u : Nat) (hn : 1 ≤ n ∧ n ≤ 4000000) (hd : 1 ≤ d ∧ d ≤ 4000000) (hu : Hid ((n + d - 1) / d = u)) (w : World) :
    Calls Try.prog 86 #[.int .i64 (n : Int), .int .i64 (d : Int)] w fun e w' => e = .returned (.int .i64 (u : Int)) ∧ w = w' := by
  have hd0 : ((d : Int) == 0) = false := beq_eq_false_iff_ne.2 (by omega)
  have hm1 : ((d : Int) == -1) = false := beq_eq_false_iff_ne.2 (by omega)
  have z0 : ¬ d = 0 := by omega
  have k1 := i64_in ((n : Int) + (d : Int)) (by omega)
  have k2 := i64_in ((n : Int) + (d : Int) - 1) (by omega)
  have ht : ((n : Int) + (d : Int) - 1).tdiv (d : Int) = (u : Int) := by
    rw [Int.tdiv_eq_ediv_of_nonneg (by omega), ← unhide hu]
    push_cast
    congr 1
    omega
  have hb : u ≤ n + d := by rw [← unhide hu]; exact Nat.le_trans (Nat.div_le_self _ _) (by omega)
  have k3 := i64_in (u : Int) (by omega)
  go_enter Try.func86, Try.ntmps86
  go_wp2
  go_ret
  exact ⟨rfl, rfl⟩

theorem spanCount (a b c : Nat) (hab : a ≤ b) (hb : b ≤ 4000000) (HC : Hid (b - a = c)) (w : World) :
    Calls Try.prog 72 #[.agg #[.int .i64 (a : Int), .int .i64 (b : Int)]] w fun e w' => e = .returned (.int .i64 (c : Int)) ∧ w.grownBy w' none := by
  have k1 : IntKind.i64.wrap ((b : Int) - (a : Int)) = (c : Int) := by have := unhide HC; rw [i64_in _ (by omega)]; omega
  go_enter Try.func72, Try.ntmps72
  go_wp2
  go_ret
  exact ⟨rfl, grown_alloc (World.grownBy.refl _ _) _⟩

set_option maxRecDepth 20000 in
set_option maxHeartbeats 3200000 in
theorem spanOf (p ps wh a b : Nat) (hp : p < ps) (hps : ps ≤ 1024) (hwh : 1 ≤ wh ∧ wh ≤ 1024) (HA : Hid (fromN wh ps p = a)) (HB : Hid (toN wh ps p = b)) (W : World) :
    Calls Try.prog 71 #[.int .i64 (p : Int), .int .i64 (ps : Int), .int .i64 (wh : Int)] W fun e W' => e = .returned (.agg #[.int .i64 (a : Int), .int .i64 (b : Int)]) ∧ W.grownBy W' none := by
  obtain ⟨x, HX⟩ : ∃ x : Nat, Hid (p * wh = x) := ⟨_, rfl⟩
  obtain ⟨y, HY⟩ : ∃ y : Nat, Hid ((p + 1) * wh = y) := ⟨_, rfl⟩
  have hx : x ≤ 1048576 := by rw [← unhide HX]; exact Nat.mul_le_mul (by omega : p ≤ 1024) hwh.2
  have hy : y ≤ 1048576 := by rw [← unhide HY]; exact Nat.mul_le_mul (by omega : p + 1 ≤ 1024) hwh.2
  have hy1 : 1 ≤ y := by rw [← unhide HY]; exact Nat.mul_le_mul (by omega : 1 ≤ p + 1) hwh.1
  have HA' : Hid (x / ps = a) := by unfold Hid; rw [← unhide HX]; exact unhide HA
  have HB' : Hid ((y + ps - 1) / ps = b) := by unfold Hid; rw [← unhide HY]; exact unhide HB
  have k1 : IntKind.i64.wrap ((p : Int) * (wh : Int)) = (x : Int) := by
    have e : (p : Int) * (wh : Int) = (x : Int) := by have := unhide HX; exact_mod_cast this
    rw [e, i64_in _ (by omega)]
  have k2 : (x : Int).tdiv (ps : Int) = (a : Int) := by
    rw [Int.tdiv_eq_ediv_of_nonneg (by omega)]
    have := unhide HA'
    exact_mod_cast this
  have ha : a ≤ x := by rw [← unhide HA']; exact Nat.div_le_self _ _
  have k3 := i64_in (a : Int) (by omega)
  have k4 := i64_in ((p : Int) + 1) (by omega)
  have k5 : IntKind.i64.wrap (((p : Int) + 1) * (wh : Int)) = (y : Int) := by
    have e : ((p : Int) + 1) * (wh : Int) = (y : Int) := by have := unhide HY; exact_mod_cast this
    rw [e, i64_in _ (by omega)]
  have z1 : ((ps : Int) == 0) = false := beq_eq_false_iff_ne.2 (by omega)
  have z2 : ((ps : Int) == -1) = false := beq_eq_false_iff_ne.2 (by omega)
  have z3 : ¬ ps = 0 := by omega
  have b0 := hide (heap_alloc_new W (.cells #[.int .i64 0, .int .i64 0] 86))
  have HG0 := hide (World.grownBy_alloc W (.cells #[.int .i64 0, .int .i64 0] 86) none)
  go_enter Try.func71, Try.ntmps71
  go_wp2
  generalize W.alloc (.cells #[.int .i64 0, .int .i64 0] 86) = W0 at *
  refine wp_region_noPanic ?_
  refine wp_region_tailL 20 (fun W => True) [true, true, true, true, true, true, true, true, true, true, false, false, false] (by kernel_rfl) (fun _ _ _ _ _ h => h) rfl (by decide) (by kernel_rfl) trivial ?_
  have bD : Hid (W0.drew.heap[W.heap.size]? = some (.cells #[.int .i64 0, .int .i64 0] 86 (0, 0))) := unhide b0
  have gD : W.grownBy W0.drew none := grown_drew (unhide HG0)
  generalize W0.drew = W1 at *
  clear b0 HG0 W0
  refine heldF_take (v := ?_) (Or.inl ⟨by rfl, ?_⟩) ?_
  rotate_left 1
  · intro w' hSw
    go_simp
    try with_reducible rfl
  try simp only [Act.put, List.setIfInBounds_toArray, List.set_cons_zero, List.set_cons_succ]
  refine heldF_take (v := ?_) (Or.inl ⟨by rfl, ?_⟩) ?_
  rotate_left 1
  · intro w' hSw
    go_simp
    try with_reducible rfl
  try simp only [Act.put, List.setIfInBounds_toArray, List.set_cons_zero, List.set_cons_succ]
  refine heldF_take (v := ?_) (Or.inl ⟨by rfl, ?_⟩) ?_
  rotate_left 1
  · intro w' hSw
    go_simp
    try with_reducible rfl
  try simp only [Act.put, List.setIfInBounds_toArray, List.set_cons_zero, List.set_cons_succ]
  refine heldF_take (v := ?_) (Or.inl ⟨by rfl, ?_⟩) ?_
  rotate_left 1
  · intro w' hSw
    go_simp
    try with_reducible rfl
  try simp only [Act.put, List.setIfInBounds_toArray, List.set_cons_zero, List.set_cons_succ]
  refine heldF_take (v := ?_) (Or.inl ⟨by rfl, ?_⟩) ?_
  rotate_left 1
  · intro w' hSw
    go_simp
    try with_reducible rfl
  try simp only [Act.put, List.setIfInBounds_toArray, List.set_cons_zero, List.set_cons_succ]
  refine heldF_take (v := ?_) (Or.inl ⟨by rfl, ?_⟩) ?_
  rotate_left 1
  · intro w' hSw
    go_simp
    try with_reducible rfl
  try simp only [Act.put, List.setIfInBounds_toArray, List.set_cons_zero, List.set_cons_succ]
  refine heldF_take (v := ?_) (Or.inl ⟨by rfl, ?_⟩) ?_
  rotate_left 1
  · intro w' hSw
    go_simp
    try with_reducible rfl
  try simp only [Act.put, List.setIfInBounds_toArray, List.set_cons_zero, List.set_cons_succ]
  refine heldF_take (v := ?_) (Or.inl ⟨by rfl, ?_⟩) ?_
  rotate_left 1
  · intro w' hSw
    go_simp
    try with_reducible rfl
  try simp only [Act.put, List.setIfInBounds_toArray, List.set_cons_zero, List.set_cons_succ]
  refine heldF_take (v := ?_) (Or.inl ⟨by rfl, ?_⟩) ?_
  rotate_left 1
  · intro w' hSw
    go_simp
    try with_reducible rfl
  try simp only [Act.put, List.setIfInBounds_toArray, List.set_cons_zero, List.set_cons_succ]
  refine heldF_take (v := ?_) (Or.inl ⟨by rfl, ?_⟩) ?_
  rotate_left 1
  · intro w' hSw
    go_simp
    try with_reducible rfl
  try simp only [Act.put, List.setIfInBounds_toArray, List.set_cons_zero, List.set_cons_succ]
  refine heldF_skip ?_
  refine heldF_skip ?_
  refine heldF_skip ?_
  refine heldF_nil ?_
  refine tailL_skip ?_
  refine tailL_skip ?_
  refine tailL_skip ?_
  refine tailL_skip ?_
  refine tailL_skip ?_
  refine tailL_skip ?_
  refine tailL_skip ?_
  refine tailL_skip ?_
  refine tailL_skip ?_
  refine tailL_skip ?_
  refine tailL_step (fun K hK => ?_)
  go_simp
  refine (divUp16 y ps b ⟨hy1, by omega⟩ (by omega) HB' W1).mono ?_
  rintro e w4 ⟨rfl, rfl⟩
  refine hK.out _ _ (.inr trivial) ?_
  clear hK K
  try simp only [Act.put, List.setIfInBounds_toArray, List.set_cons_zero, List.set_cons_succ]
  refine tailL_step (fun K hK => ?_)
  go_simp
  refine hK.out _ _ (.inr trivial) ?_
  clear hK K
  try simp only [Act.put, List.setIfInBounds_toArray, List.set_cons_zero, List.set_cons_succ]
  refine tailL_step (fun K hK => ?_)
  refine step_store_row (by rfl) 86 _ _ rfl W.heap.size rfl #[.int .i64 (a : Int), .int .i64 (b : Int)] rfl _ 86 (unhide bD) rfl (by kernel_rfl) (by simp [Value.oneCell']) ?_
  intro w5 hB5 g5
  refine hK.out _ _ (.inl rfl) ?_
  clear hK K
  refine tailL_nil (NoPanic.normal ?_)
  try simp only [Act.put]
  go_wp2
  refine bodyPost_ret (v := .agg #[.int .i64 (a : Int), .int .i64 (b : Int)]) ?_ rfl ⟨rfl, ?_⟩
  · rw [results_c1 rfl]
    exact run_loadVar_row w5 _ 86 86 _ (0, 0) _ hB5 Try.underlying86 rfl (by kernel_rfl)
  · exact grown_new gD g5 (fun g e => by simp at e; omega)

end Go.Proofs.Ytkefpjbdkhifhaa
