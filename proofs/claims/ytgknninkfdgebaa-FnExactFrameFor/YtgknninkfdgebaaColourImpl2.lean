/-
  Colours in the program: depths, a pixel as a colour, turns (written by gen_colimpl2.py).
-/
import Derived.Test.YtgknninkfdgebaaColourImpl
namespace Go.Proofs.Ytgknninkfdgebaa
open Go.RowKit

set_option maxRecDepth 20000 in
theorem implDepth8 (w : World) :
    Calls Try.prog 38 #[.int .i64 8] w fun e w' => e = .returned (.agg #[.int .i64 128, .int .i64 255]) ∧ w.grownBy w' none := by
  go_enter Try.func38, Try.ntmps38
  go_wp2_with fail
  refine wp_region_noPanic ?_
  refine wp_region_tailL 20 (fun W => W.heap[w.heap.size]? = some (.cells #[.int .i64 0, .int .i64 0] 57 (0, 0))) [true, true, true, true, true, true, true, false] (by kernel_rfl) (fun _ _ _ _ _ h => h) rfl (by decide) (by kernel_rfl) (heap_alloc_new w _) ?_
  refine heldF_take (v := ?_) (Or.inl ⟨by rfl, ?_⟩) ?_
  rotate_left 1
  · intro w' hSw
    go_simp
    try with_reducible rfl
  try simp only [Act.put, List.setIfInBounds_toArray, List.set_cons_zero, List.set_cons_succ]
  refine heldF_take (v := .int .i64 7) (Or.inl ⟨by rfl, ?_⟩) ?_
  · intro w' hSw
    kernel_rfl
  try simp only [Act.put, List.setIfInBounds_toArray, List.set_cons_zero, List.set_cons_succ]
  refine heldF_take (v := .int .i64 128) (Or.inl ⟨by rfl, ?_⟩) ?_
  · intro w' hSw
    kernel_rfl
  try simp only [Act.put, List.setIfInBounds_toArray, List.set_cons_zero, List.set_cons_succ]
  refine heldF_take (v := ?_) (Or.inl ⟨by rfl, ?_⟩) ?_
  rotate_left 1
  · intro w' hSw
    go_simp
    try with_reducible rfl
  try simp only [Act.put, List.setIfInBounds_toArray, List.set_cons_zero, List.set_cons_succ]
  refine heldF_take (v := .int .i64 256) (Or.inl ⟨by rfl, ?_⟩) ?_
  · intro w' hSw
    kernel_rfl
  try simp only [Act.put, List.setIfInBounds_toArray, List.set_cons_zero, List.set_cons_succ]
  refine heldF_take (v := .int .i64 255) (Or.inl ⟨by rfl, ?_⟩) ?_
  · intro w' hSw
    kernel_rfl
  try simp only [Act.put, List.setIfInBounds_toArray, List.set_cons_zero, List.set_cons_succ]
  refine heldF_take (v := .agg #[.int .i64 128, .int .i64 255]) (Or.inl ⟨by rfl, ?_⟩) ?_
  · intro w' hSw
    kernel_rfl
  try simp only [Act.put, List.setIfInBounds_toArray, List.set_cons_zero, List.set_cons_succ]
  refine heldF_skip ?_
  refine heldF_nil ?_
  refine tailL_skip ?_
  refine tailL_skip ?_
  refine tailL_skip ?_
  refine tailL_skip ?_
  refine tailL_skip ?_
  refine tailL_skip ?_
  refine tailL_skip ?_
  refine tailL_step (fun K hK => ?_)
  have B9 := hide (heap_alloc_new w (.cells #[.int .i64 0, .int .i64 0] 57))
  refine step_store_row rfl 57 _ _ rfl w.heap.size rfl #[.int .i64 128, .int .i64 255] rfl _ 57 (unhide B9) rfl (by kernel_rfl) (by simp [Value.oneCell']) ?_
  intro w4 hB4 g4
  refine hK.out _ _ (.inl rfl) ?_
  clear hK K
  refine tailL_nil (NoPanic.normal ?_)
  try simp only [Act.put]
  go_wp2
  refine bodyPost_ret (v := .agg #[.int .i64 128, .int .i64 255]) ?_ rfl ⟨rfl, ?_⟩
  · rw [results_c1 rfl]
    exact run_loadVar_row w4 _ 57 57 _ (0, 0) _ hB4 Try.underlying57 rfl (by kernel_rfl)
  · exact grown_new (World.grownBy_alloc w _ _) (grown_trans (grown_any (grown_drew (World.grownBy.refl _ _))) g4) (fun g e => by simp at e; omega)

set_option maxRecDepth 20000 in
theorem implDepth12 (w : World) :
    Calls Try.prog 38 #[.int .i64 12] w fun e w' => e = .returned (.agg #[.int .i64 2048, .int .i64 4095]) ∧ w.grownBy w' none := by
  go_enter Try.func38, Try.ntmps38
  go_wp2_with fail
  refine wp_region_noPanic ?_
  refine wp_region_tailL 20 (fun W => W.heap[w.heap.size]? = some (.cells #[.int .i64 0, .int .i64 0] 57 (0, 0))) [true, true, true, true, true, true, true, false] (by kernel_rfl) (fun _ _ _ _ _ h => h) rfl (by decide) (by kernel_rfl) (heap_alloc_new w _) ?_
  refine heldF_take (v := ?_) (Or.inl ⟨by rfl, ?_⟩) ?_
  rotate_left 1
  · intro w' hSw
    go_simp
    try with_reducible rfl
  try simp only [Act.put, List.setIfInBounds_toArray, List.set_cons_zero, List.set_cons_succ]
  refine heldF_take (v := .int .i64 11) (Or.inl ⟨by rfl, ?_⟩) ?_
  · intro w' hSw
    kernel_rfl
  try simp only [Act.put, List.setIfInBounds_toArray, List.set_cons_zero, List.set_cons_succ]
  refine heldF_take (v := .int .i64 2048) (Or.inl ⟨by rfl, ?_⟩) ?_
  · intro w' hSw
    kernel_rfl
  try simp only [Act.put, List.setIfInBounds_toArray, List.set_cons_zero, List.set_cons_succ]
  refine heldF_take (v := ?_) (Or.inl ⟨by rfl, ?_⟩) ?_
  rotate_left 1
  · intro w' hSw
    go_simp
    try with_reducible rfl
  try simp only [Act.put, List.setIfInBounds_toArray, List.set_cons_zero, List.set_cons_succ]
  refine heldF_take (v := .int .i64 4096) (Or.inl ⟨by rfl, ?_⟩) ?_
  · intro w' hSw
    kernel_rfl
  try simp only [Act.put, List.setIfInBounds_toArray, List.set_cons_zero, List.set_cons_succ]
  refine heldF_take (v := .int .i64 4095) (Or.inl ⟨by rfl, ?_⟩) ?_
  · intro w' hSw
    kernel_rfl
  try simp only [Act.put, List.setIfInBounds_toArray, List.set_cons_zero, List.set_cons_succ]
  refine heldF_take (v := .agg #[.int .i64 2048, .int .i64 4095]) (Or.inl ⟨by rfl, ?_⟩) ?_
  · intro w' hSw
    kernel_rfl
  try simp only [Act.put, List.setIfInBounds_toArray, List.set_cons_zero, List.set_cons_succ]
  refine heldF_skip ?_
  refine heldF_nil ?_
  refine tailL_skip ?_
  refine tailL_skip ?_
  refine tailL_skip ?_
  refine tailL_skip ?_
  refine tailL_skip ?_
  refine tailL_skip ?_
  refine tailL_skip ?_
  refine tailL_step (fun K hK => ?_)
  have B9 := hide (heap_alloc_new w (.cells #[.int .i64 0, .int .i64 0] 57))
  refine step_store_row rfl 57 _ _ rfl w.heap.size rfl #[.int .i64 2048, .int .i64 4095] rfl _ 57 (unhide B9) rfl (by kernel_rfl) (by simp [Value.oneCell']) ?_
  intro w4 hB4 g4
  refine hK.out _ _ (.inl rfl) ?_
  clear hK K
  refine tailL_nil (NoPanic.normal ?_)
  try simp only [Act.put]
  go_wp2
  refine bodyPost_ret (v := .agg #[.int .i64 2048, .int .i64 4095]) ?_ rfl ⟨rfl, ?_⟩
  · rw [results_c1 rfl]
    exact run_loadVar_row w4 _ 57 57 _ (0, 0) _ hB4 Try.underlying57 rfl (by kernel_rfl)
  · exact grown_new (World.grownBy_alloc w _ _) (grown_trans (grown_any (grown_drew (World.grownBy.refl _ _))) g4) (fun g e => by simp at e; omega)

theorem eqCol (a b c a' b' c' : Int) (w : World) : (Op.equalIn 10000 83 (.agg #[.int .i64 a, .int .i64 b, .int .i64 c]) (.agg #[.int .i64 a', .int .i64 b', .int .i64 c'])).run Try.prog w = .ok (a == a' && (b == b' && c == c')) w := by
  have hii : (Try.prog.info? 3).isSome = true := by kernel_rfl
  obtain ⟨i0, hi⟩ := Option.isSome_iff_exists.1 hii
  rw [run_equalIn_array w 9999 _ _ Try.underlying83 hi]
  have hc : Try.prog.cellsOf 3 = 1 := by kernel_rfl
  rw [hc]
  have px : ∀ (X : Array Value) (i : Nat) (z : Int), X[i]? = some (.int .i64 z) → (Go.part 3 X i).run Try.prog w = .ok (.int .i64 z) w := fun X i z h => by
    simp [Go.part, isAgg, run_underlying Try.underlying3, h]
  have e : List.range 3 = [0, 1, 2] := rfl
  have p0 := px #[.int .i64 a, .int .i64 b, .int .i64 c] 0 a rfl
  have p1 := px #[.int .i64 a, .int .i64 b, .int .i64 c] 1 b rfl
  have p2 := px #[.int .i64 a, .int .i64 b, .int .i64 c] 2 c rfl
  have q0 := px #[.int .i64 a', .int .i64 b', .int .i64 c'] 0 a' rfl
  have q1 := px #[.int .i64 a', .int .i64 b', .int .i64 c'] 1 b' rfl
  have q2 := px #[.int .i64 a', .int .i64 b', .int .i64 c'] 2 c' rfl
  have eqi := fun x y => run_equalIn_int w 9998 3 .i64 .i64 x y Try.underlying3
  cases ha : (a == a')
  · simp only [e, Op.eqItems, Nat.mul_one, Sem.run_bind, p0, q0, Result.andThen_ok, eqi, ha]
    simp
  cases hb : (b == b')
  · simp only [e, Op.eqItems, Nat.mul_one, Sem.run_bind, p0, q0, p1, q1, Result.andThen_ok, eqi, ha, hb, Bool.not_true, Bool.false_eq_true, if_false]
    simp
  cases hd : (c == c')
  all_goals
    simp only [e, Op.eqItems, Nat.mul_one, Sem.run_bind, p0, q0, p1, q1, p2, q2, Result.andThen_ok, eqi, ha, hb, hd, Bool.not_true, Bool.false_eq_true, if_false]
    simp

theorem implFixNo (h t : Int) (ao : Option Addr) (n cap : Nat) (w : World) (hn : n ≠ 3) :
    Calls Try.prog 53 #[.agg #[.int .i64 h, .int .i64 t], .slice ao n cap] w fun e w' => e = .returned (.tuple #[.agg #[.int .i64 0, .int .i64 0, .int .i64 0], .bool false]) ∧ w.grownBy w' none := by
  have hne : ((n : Int) != 3) = true := by simp; omega
  obtain ⟨W0, hW0⟩ : ∃ W0, ((w).alloc (.cells #[.int .i64 h, .int .i64 t] 57)).alloc (.cells #[.int .i64 0, .int .i64 0, .int .i64 0] 83) = W0 := ⟨_, rfl⟩
  have HG0 : Hid (w.grownBy W0 none) := by rw [← hW0]; exact grown_alloc (World.grownBy_alloc _ _ _) _
  have b0 : Hid (W0.heap[w.heap.size]? = some (.cells #[.int .i64 h, .int .i64 t] 57 (0, 0))) := by
    rw [← hW0, Below.heap_alloc _ _ _ (by simp <;> omega)]
    have := heap_alloc_new (w) (.cells #[.int .i64 h, .int .i64 t] 57)
    unfold Hid
    simpa using this
  have b1 : Hid (W0.heap[w.heap.size + 1]? = some (.cells #[.int .i64 0, .int .i64 0, .int .i64 0] 83 (0, 0))) := by
    rw [← hW0]
    have := heap_alloc_new ((w).alloc (.cells #[.int .i64 h, .int .i64 t] 57)) (.cells #[.int .i64 0, .int .i64 0, .int .i64 0] 83)
    unfold Hid
    simpa using this
  have HSZ : Hid (W0.heap.size = w.heap.size + 2) := by rw [← hW0]; simp [Hid]
  have HW := hide hW0
  clear hW0 hn
  go_enter Try.func53, Try.ntmps53
  go_wp2_with (rw [unhide HW]; refine store_row rfl 83 _ _ rfl (w.heap.size + 1) rfl #[.int .i64 0, .int .i64 0, .int .i64 0] rfl #[.int .i64 0, .int .i64 0, .int .i64 0] 83 (unhide b1) rfl (by kernel_rfl) (by simp [Value.oneCell']) ?_; intro w3 hB3 g3)
  refine bodyPost_ret (v := .tuple #[.agg #[.int .i64 0, .int .i64 0, .int .i64 0], .bool false]) ?_ rfl ⟨rfl, ?_⟩
  · exact results_c2 (p := 4) (q := 5) (ty := 83) rfl _ _ _ (w.heap.size + 1) rfl _ (run_loadVar_row w3 _ 83 83 _ (0, 0) _ hB3 Try.underlying83 rfl (by kernel_rfl))
  · exact grown_new (unhide HG0) g3 (fun g e => by simp at e; omega)

set_option maxRecDepth 20000 in
set_option maxHeartbeats 1600000 in
theorem implFixYes (h t : Int) (bb off cap : Nat) (a b c a' b' c' : Int) (w : World) (C0 : Hid (w.cell? ⟨bb, off, none⟩ = some (.int .i64 a))) (C1 : Hid (w.cell? ⟨bb, off + 1, none⟩ = some (.int .i64 b))) (C2 : Hid (w.cell? ⟨bb, off + 2, none⟩ = some (.int .i64 c)))
    (HA : Hid (clipI a t = a')) (HB : Hid (clipI b t = b')) (HC : Hid (clipI c t = c')) :
    Calls Try.prog 53 #[.agg #[.int .i64 h, .int .i64 t], .slice (some ⟨bb, off, none⟩) 3 cap] w fun e w' => e = .returned (.tuple #[.agg #[.int .i64 a, .int .i64 b, .int .i64 c], .bool (a == a' && (b == b' && c == c'))]) ∧ w.grownBy w' none := by
  have har : ∀ w, (Instr.arrayAt 83 (.slice (some ⟨bb, off, none⟩) 3 cap)).run Try.prog w = .ok (.pointer (some ⟨bb, off, none⟩)) w := fun w => by kernel_rfl
  obtain ⟨W0, hW0⟩ : ∃ W0, (((w).alloc (.cells #[.int .i64 h, .int .i64 t] 57)).alloc (.cells #[.int .i64 0, .int .i64 0, .int .i64 0] 83)).alloc (.cells #[.int .i64 0, .int .i64 0, .int .i64 0] 83) = W0 := ⟨_, rfl⟩
  have HG0 : Hid (w.grownBy W0 none) := by rw [← hW0]; exact grown_alloc (grown_alloc (World.grownBy_alloc _ _ _) _) _
  have b0 : Hid (W0.heap[w.heap.size]? = some (.cells #[.int .i64 h, .int .i64 t] 57 (0, 0))) := by
    rw [← hW0, Below.heap_alloc _ _ _ (by simp <;> omega), Below.heap_alloc _ _ _ (by simp <;> omega)]
    have := heap_alloc_new (w) (.cells #[.int .i64 h, .int .i64 t] 57)
    unfold Hid
    simpa using this
  have b1 : Hid (W0.heap[w.heap.size + 1]? = some (.cells #[.int .i64 0, .int .i64 0, .int .i64 0] 83 (0, 0))) := by
    rw [← hW0, Below.heap_alloc _ _ _ (by simp <;> omega)]
    have := heap_alloc_new ((w).alloc (.cells #[.int .i64 h, .int .i64 t] 57)) (.cells #[.int .i64 0, .int .i64 0, .int .i64 0] 83)
    unfold Hid
    simpa using this
  have b2 : Hid (W0.heap[w.heap.size + 1 + 1]? = some (.cells #[.int .i64 0, .int .i64 0, .int .i64 0] 83 (0, 0))) := by
    rw [← hW0]
    have := heap_alloc_new (((w).alloc (.cells #[.int .i64 h, .int .i64 t] 57)).alloc (.cells #[.int .i64 0, .int .i64 0, .int .i64 0] 83)) (.cells #[.int .i64 0, .int .i64 0, .int .i64 0] 83)
    unfold Hid
    simpa using this
  have HSZ : Hid (W0.heap.size = w.heap.size + 3) := by rw [← hW0]; simp [Hid]
  have hcc : Hid (∀ j v, (#[.int .i64 a, .int .i64 b, .int .i64 c] : Array Value)[j]? = some v → ((w.alloc (.cells #[.int .i64 h, .int .i64 t] 57)).alloc (.cells #[.int .i64 0, .int .i64 0, .int .i64 0] 83)).cell? ⟨bb, off + j, none⟩ = some v) := by
    intro j v hv
    refine (grown_alloc (World.grownBy_alloc _ _ _) _).cell ?_ (by simp)
    match j, hv with
    | 0, hv => simp at hv; subst hv; exact unhide C0
    | 1, hv => simp at hv; subst hv; exact unhide C1
    | 2, hv => simp at hv; subst hv; exact unhide C2
    | j + 3, hv => simp at hv
  have HW := hide hW0
  clear hW0
  go_enter Try.func53, Try.ntmps53
  go_wp2_with (first | (refine load_mid rfl 83 _ rfl bb off rfl #[.int .i64 a, .int .i64 b, .int .i64 c] (unhide hcc) _ Try.underlying83 rfl (by kernel_rfl) ?_) | (rw [unhide HW]; refine store_row rfl 83 _ _ rfl (w.heap.size + 1 + 1) rfl #[.int .i64 a, .int .i64 b, .int .i64 c] rfl #[.int .i64 0, .int .i64 0, .int .i64 0] 83 (unhide b2) rfl (by kernel_rfl) (by simp [Value.oneCell']) ?_; intro W2 hB2 g2))
  have y0 := hide (grown_at17 g2 (unhide b0) (by simp; omega))
  have y1 := hide (grown_at17 g2 (unhide b1) (by simp))
  have y2 := hide hB2
  have HG2 := hide (grown_new (unhide HG0) g2 (fun g e => by simp at e; omega))
  clear g2 hB2 b0 b1 b2 HG0 hcc C0 C1 C2 HW HSZ har
  generalize hs : w.heap.size = s at *
  have HS := hide hs
  clear hs
  refine wp_region_noPanic ?_
  refine wp_region_raw (fun W => W.heap[s]? = some (.cells #[.int .i64 h, .int .i64 t] 57 (0, 0)) ∧ W.heap[s + 1 + 1]? = some (.cells #[.int .i64 a, .int .i64 b, .int .i64 c] 83 (0, 0))) [true, true, true, true, false, false, false, false] (by kernel_rfl) (fun _ _ _ _ _ h => h) rfl (by kernel_rfl) ⟨unhide y0, unhide y2⟩ ?_
  have y0 : Hid (W2.drew.heap[s]? = _) := y0
  have y1 : Hid (W2.drew.heap[s + 1]? = _) := y1
  have y2 : Hid (W2.drew.heap[s + 1 + 1]? = _) := y2
  have HG2 : Hid (w.grownBy W2.drew none) := grown_drew (unhide HG2)
  generalize W2.drew = W2 at *
  refine heldF_take (v := .agg #[.int .i64 a, .int .i64 b, .int .i64 c]) (Or.inl ⟨by rfl, ?_⟩) ?_
  · intro w' hSw
    exact exec_row 83 _ rfl (s + 1 + 1) rfl _ _ hSw.2 _ Try.underlying83 rfl (by kernel_rfl)
  try simp only [Act.put, List.setIfInBounds_toArray, List.set_cons_zero, List.set_cons_succ]
  refine heldF_take (v := .agg #[.int .i64 a, .int .i64 b, .int .i64 c]) (Or.inl ⟨by rfl, ?_⟩) ?_
  · intro w' hSw
    exact exec_row 83 _ rfl (s + 1 + 1) rfl _ _ hSw.2 _ Try.underlying83 rfl (by kernel_rfl)
  try simp only [Act.put, List.setIfInBounds_toArray, List.set_cons_zero, List.set_cons_succ]
  refine heldF_take (v := .agg #[.int .i64 h, .int .i64 t]) (Or.inl ⟨by rfl, ?_⟩) ?_
  · intro w' hSw
    exact exec_row 57 _ rfl s rfl _ _ hSw.1 _ Try.underlying57 rfl (by kernel_rfl)
  try simp only [Act.put, List.setIfInBounds_toArray, List.set_cons_zero, List.set_cons_succ]
  refine heldF_take (v := .agg #[.int .i64 a, .int .i64 b, .int .i64 c]) (Or.inl ⟨by rfl, ?_⟩) ?_
  · intro w' hSw
    exact exec_row 83 _ rfl (s + 1 + 1) rfl _ _ hSw.2 _ Try.underlying83 rfl (by kernel_rfl)
  try simp only [Act.put, List.setIfInBounds_toArray, List.set_cons_zero, List.set_cons_succ]
  refine heldF_skip (heldF_skip (heldF_skip (heldF_skip (heldF_nil ?_))))
  refine anyH_step1 (i := 4) rfl (by kernel_rfl) (fun K hK => ?_)
  go_simp
  refine (implNearC h t a b c a' b' c' HA HB HC W2).mono ?_
  rintro e w3 ⟨rfl, g3⟩
  have HGG := hide (grown_trans (unhide HG2) g3)
  have z0 := hide (grown_at17 g3 (unhide y0) (by simp))
  have z1 := hide (grown_at17 g3 (unhide y1) (by simp))
  have z2 := hide (grown_at17 g3 (unhide y2) (by simp))
  refine hK.out _ _ ⟨unhide z0, unhide z2⟩ ?_
  clear hK K
  try simp only [Act.put, List.setIfInBounds_toArray, List.set_cons_zero, List.set_cons_succ]
  refine anyH_step2 (i := 5) (j := 6) rfl rfl (by kernel_rfl) (fun K hK => ?_) (fun K hK => ?_)
  · have heq := eqCol a b c a' b' c' w3
    go_simp
    refine hK.out _ _ ⟨unhide z0, unhide z2⟩ ?_
    clear hK K heq
    try simp only [Act.put, List.setIfInBounds_toArray, List.set_cons_zero, List.set_cons_succ]
    refine anyH_step1 (i := 6) rfl (by kernel_rfl) (fun K hK => ?_)
    refine step_store_row (by rfl) 83 _ _ rfl (s + 1) rfl #[.int .i64 a, .int .i64 b, .int .i64 c] rfl #[.int .i64 0, .int .i64 0, .int .i64 0] 83 (unhide z1) rfl (by kernel_rfl) (by simp [Value.oneCell']) ?_
    intro w4 hB4 g4
    have q0 := grown_at17 g4 (unhide z0) (by simp)
    have q2 := grown_at17 g4 (unhide z2) (by simp)
    refine hK.out _ _ ⟨q0, q2⟩ ?_
    clear hK K
    try simp only [Act.put]
    refine anyH_step1 (i := 7) rfl (by kernel_rfl) (fun K hK => ?_)
    go_simp
    refine hK.out _ _ ⟨q0, q2⟩ ?_
    clear hK K
    try simp only [Act.put, List.setIfInBounds_toArray, List.set_cons_zero, List.set_cons_succ]
    refine wpAnyH_done (by kernel_rfl) (NoPanic.normal ?_) _
    go_wp2
    refine bodyPost_ret (v := .tuple #[.agg #[.int .i64 a, .int .i64 b, .int .i64 c], .bool (a == a' && (b == b' && c == c'))]) ?_ rfl ⟨rfl, ?_⟩
    · exact results_c2 (p := 4) (q := 5) (ty := 83) rfl _ _ _ (s + 1) rfl _ (run_loadVar_row w4 _ 83 83 _ (0, 0) _ hB4 Try.underlying83 rfl (by kernel_rfl))
    · exact grown_new (unhide HGG) g4 (fun g e => by simp at e; have := unhide HS; omega)
  · refine step_store_row (by rfl) 83 _ _ rfl (s + 1) rfl #[.int .i64 a, .int .i64 b, .int .i64 c] rfl #[.int .i64 0, .int .i64 0, .int .i64 0] 83 (unhide z1) rfl (by kernel_rfl) (by simp [Value.oneCell']) ?_
    intro w4 hB4 g4
    have q0 := grown_at17 g4 (unhide z0) (by simp)
    have q2 := grown_at17 g4 (unhide z2) (by simp)
    refine hK.out _ _ ⟨q0, q2⟩ ?_
    clear hK K
    try simp only [Act.put]
    refine anyH_step1 (i := 5) rfl (by kernel_rfl) (fun K hK => ?_)
    have heq := eqCol a b c a' b' c' w4
    go_simp
    refine hK.out _ _ ⟨q0, q2⟩ ?_
    clear hK K heq
    try simp only [Act.put, List.setIfInBounds_toArray, List.set_cons_zero, List.set_cons_succ]
    refine anyH_step1 (i := 7) rfl (by kernel_rfl) (fun K hK => ?_)
    go_simp
    refine hK.out _ _ ⟨q0, q2⟩ ?_
    clear hK K
    try simp only [Act.put, List.setIfInBounds_toArray, List.set_cons_zero, List.set_cons_succ]
    refine wpAnyH_done (by kernel_rfl) (NoPanic.normal ?_) _
    go_wp2
    refine bodyPost_ret (v := .tuple #[.agg #[.int .i64 a, .int .i64 b, .int .i64 c], .bool (a == a' && (b == b' && c == c'))]) ?_ rfl ⟨rfl, ?_⟩
    · exact results_c2 (p := 4) (q := 5) (ty := 83) rfl _ _ _ (s + 1) rfl _ (run_loadVar_row w4 _ 83 83 _ (0, 0) _ hB4 Try.underlying83 rfl (by kernel_rfl))
    · exact grown_new (unhide HGG) g4 (fun g e => by simp at e; have := unhide HS; omega)

end Go.Proofs.Ytgknninkfdgebaa
