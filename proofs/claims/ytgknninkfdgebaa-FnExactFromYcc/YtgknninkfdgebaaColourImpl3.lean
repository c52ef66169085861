/-
  Colours in the program: the turn back (written by gen_colimpl3.py).
-/
import Derived.Test.YtgknninkfdgebaaColourImpl2
namespace Go.Proofs.Ytgknninkfdgebaa
open Go.RowKit

set_option maxRecDepth 20000 in
set_option maxHeartbeats 1600000 in
theorem implFrom17 (h t y u v : Int) (hh : 0 ≤ h ∧ h ≤ 2048) (ht : 0 ≤ t ∧ t ≤ 4095) (hy : 0 ≤ y ∧ y ≤ 4095) (hu : 0 ≤ u ∧ u ≤ 4095) (hv : 0 ≤ v ∧ v ≤ 4095) (w : World)
    (r' g' b' : Int) (HL : Hid (fromL t h y u v = [r', g', b'])) :
    Calls Try.prog 31 #[.agg #[.int .i64 h, .int .i64 t], .agg #[.int .i64 (y), .int .i64 (u), .int .i64 (v)]] w fun e w' => e = .returned (.agg #[.int .i64 (r'), .int .i64 (g'), .int .i64 (b')]) ∧ w.grownBy w' none := by
  obtain ⟨kr, HKR⟩ : ∃ k, Hid (rndI (359 * (v - h)) 256 = k) := ⟨_, rfl⟩
  obtain ⟨kb, HKB⟩ : ∃ k, Hid (rndI (454 * (u - h)) 256 = k) := ⟨_, rfl⟩
  have hkr : -20000 ≤ kr ∧ kr ≤ 20000 := by have h := rnd_in (359 * (v - h)) 256 (by omega); rw [unhide HKR] at h; omega
  have hkb : -20000 ≤ kb ∧ kb ≤ 20000 := by have h := rnd_in (454 * (u - h)) 256 (by omega); rw [unhide HKB] at h; omega
  have hl := unhide HL
  unfold fromL rOf bOf gOf at hl
  rw [unhide HKR, unhide HKB] at hl
  simp only [List.cons.injEq, and_true] at hl
  obtain ⟨hl1, hl2, hl3⟩ := hl
  have HR' : Hid (clipI (y + kr) t = r') := hl1
  have HB' : Hid (clipI (y + kb) t = b') := hl3
  rw [hl1, hl3] at hl2
  clear hl1 hl3 HL
  have hr' : 0 ≤ r' ∧ r' ≤ 4095 := by have h1 := clip_in (y + kr) t ht.1; rw [unhide HR'] at h1; omega
  have hb' : 0 ≤ b' ∧ b' ≤ 4095 := by have h1 := clip_in (y + kb) t ht.1; rw [unhide HB'] at h1; omega
  obtain ⟨kg, HKG⟩ : ∃ k, Hid (rndI (256 * y - 77 * r' - 29 * b') 150 = k) := ⟨_, rfl⟩
  rw [unhide HKG] at hl2
  have HG' : Hid (clipI kg t = g') := hl2
  clear hl2
  obtain ⟨W0, hW0⟩ : ∃ W0, (((w).alloc (.cells #[.int .i64 h, .int .i64 t] 57)).alloc (.cells #[.int .i64 (y), .int .i64 (u), .int .i64 (v)] 83)).alloc (.cells #[.int .i64 0, .int .i64 0, .int .i64 0] 83) = W0 := ⟨_, rfl⟩
  have HG0 : Hid (w.grownBy W0 none) := by rw [← hW0]; exact grown_alloc (grown_alloc (World.grownBy_alloc _ _ _) _) _
  have b0 : Hid (W0.heap[w.heap.size]? = some (.cells #[.int .i64 h, .int .i64 t] 57 (0, 0))) := by
    rw [← hW0, Below.heap_alloc _ _ _ (by simp <;> omega), Below.heap_alloc _ _ _ (by simp <;> omega)]
    have := heap_alloc_new (w) (.cells #[.int .i64 h, .int .i64 t] 57)
    unfold Hid
    simpa using this
  have b1 : Hid (W0.heap[w.heap.size + 1]? = some (.cells #[.int .i64 (y), .int .i64 (u), .int .i64 (v)] 83 (0, 0))) := by
    rw [← hW0, Below.heap_alloc _ _ _ (by simp <;> omega)]
    have := heap_alloc_new ((w).alloc (.cells #[.int .i64 h, .int .i64 t] 57)) (.cells #[.int .i64 (y), .int .i64 (u), .int .i64 (v)] 83)
    unfold Hid
    simpa using this
  have b2 : Hid (W0.heap[w.heap.size + 1 + 1]? = some (.cells #[.int .i64 0, .int .i64 0, .int .i64 0] 83 (0, 0))) := by
    rw [← hW0]
    have := heap_alloc_new (((w).alloc (.cells #[.int .i64 h, .int .i64 t] 57)).alloc (.cells #[.int .i64 (y), .int .i64 (u), .int .i64 (v)] 83)) (.cells #[.int .i64 0, .int .i64 0, .int .i64 0] 83)
    unfold Hid
    simpa using this
  have HSZ : Hid (W0.heap.size = w.heap.size + 3) := by rw [← hW0]; simp [Hid]
  have HW := hide hW0
  clear hW0
  have k1 := i64_in (v - h) (by omega)
  have k2 := i64_in (359 * (v - h)) (by omega)
  have k3 := i64_in (y + kr) (by omega)
  have k4 := i64_in (u - h) (by omega)
  have k5 := i64_in (454 * (u - h)) (by omega)
  have k6 := i64_in (y + kb) (by omega)
  have k7 := i64_in (256 * y) (by omega)
  have k8 := i64_in (77 * r') (by omega)
  have k9 := i64_in (29 * b') (by omega)
  have ka := i64_in (256 * y - 77 * r') (by omega)
  have kc := i64_in (256 * y - 77 * r' - 29 * b') (by omega)
  go_enter Try.func31, Try.ntmps31
  go_wp2_with fail
  rw [unhide HW]
  generalize hs : w.heap.size = s at *
  have HS := hide hs
  clear hs HW HSZ
  have c0 := at17 (unhide b1) 0 rfl
  have c1 := at17 (unhide b1) 1 rfl
  have c2 := at17 (unhide b1) 2 rfl
  go_quiet (fail)
  rename_i nq
  have y0 : Hid ((W0.drewN nq).heap[s]? = _) := b0
  have y2 : Hid ((W0.drewN nq).heap[s + 1 + 1]? = _) := b2
  have HG : Hid (w.grownBy (W0.drewN nq) none) := grown_drewN (unhide HG0) _
  clear c0 c1 c2 b0 b1 b2 HG0
  generalize W0.drewN nq = w1 at *
  go_wp2
  refine wp_region_noPanic ?_
  refine wp_region_tailL 20 (fun W => W.heap[s]? = some (.cells #[.int .i64 h, .int .i64 t] 57 (0, 0))) [true, true, true, true, true, true, true, false, false, false, false] (by kernel_rfl) (fun _ _ _ _ _ h => h) rfl (by decide) (by kernel_rfl) (unhide y0) ?_
  have y0 : Hid (w1.drew.heap[s]? = _) := y0
  have y2 : Hid (w1.drew.heap[s + 1 + 1]? = _) := y2
  have HG : Hid (w.grownBy w1.drew none) := grown_drew (unhide HG)
  generalize w1.drew = W2 at *
  refine heldF_take (v := .agg #[.int .i64 h, .int .i64 t]) (Or.inl ⟨by rfl, ?_⟩) ?_
  · intro w' hSw
    exact exec_row 57 _ rfl s rfl _ _ hSw _ Try.underlying57 rfl (by kernel_rfl)
  try simp only [Act.put, List.setIfInBounds_toArray, List.set_cons_zero, List.set_cons_succ]
  refine heldF_take (v := ?_) (Or.inl ⟨by rfl, ?_⟩) ?_
  rotate_left 1
  · intro w' hSw
    go_simp
    try with_reducible rfl
  try simp only [Act.put, List.setIfInBounds_toArray, List.set_cons_zero, List.set_cons_succ]
  refine heldF_take (v := ?_) (Or.inl ⟨by rfl, ?_⟩) ?_
  rotate_left 1
  · intro w' hSw
    go_simp
    try with_reducible rfl
  try simp only [Act.put, List.setIfInBounds_toArray, List.set_cons_zero, List.set_cons_succ]
  refine heldF_take (v := ?_) (Or.inl ⟨by rfl, ?_⟩) ?_
  rotate_left 1
  · intro w' hSw
    go_simp
    try with_reducible rfl
  try simp only [Act.put, List.setIfInBounds_toArray, List.set_cons_zero, List.set_cons_succ]
  refine heldF_take (v := ?_) (Or.inl ⟨by rfl, ?_⟩) ?_
  rotate_left 1
  · intro w' hSw
    have cc := at17 hSw 0 rfl
    go_simp
    try with_reducible rfl
  try simp only [Act.put, List.setIfInBounds_toArray, List.set_cons_zero, List.set_cons_succ]
  refine heldF_take (v := ?_) (Or.inl ⟨by rfl, ?_⟩) ?_
  rotate_left 1
  · intro w' hSw
    go_simp
    try with_reducible rfl
  try simp only [Act.put, List.setIfInBounds_toArray, List.set_cons_zero, List.set_cons_succ]
  refine heldF_take (v := ?_) (Or.inl ⟨by rfl, ?_⟩) ?_
  rotate_left 1
  · intro w' hSw
    go_simp
    try with_reducible rfl
  try simp only [Act.put, List.setIfInBounds_toArray, List.set_cons_zero, List.set_cons_succ]
  refine heldF_skip ?_
  refine heldF_skip ?_
  refine heldF_skip ?_
  refine heldF_skip ?_
  refine heldF_nil ?_
  refine tailL_skip ?_
  refine tailL_skip ?_
  refine tailL_skip ?_
  refine tailL_skip ?_
  refine tailL_skip ?_
  refine tailL_skip ?_
  refine tailL_skip ?_
  refine tailL_step (fun K hK => ?_)
  go_simp
  refine (implRnd256 (359 * (v - h)) kr (by omega) HKR W2).mono ?_
  rintro e w4 ⟨rfl, rfl⟩
  refine hK.out _ _ (.inr (unhide y0)) ?_
  clear hK K
  try simp only [Act.put, List.setIfInBounds_toArray, List.set_cons_zero, List.set_cons_succ]
  refine tailL_step (fun K hK => ?_)
  go_simp
  refine hK.out _ _ (.inr (unhide y0)) ?_
  clear hK K
  try simp only [Act.put, List.setIfInBounds_toArray, List.set_cons_zero, List.set_cons_succ]
  refine tailL_step (fun K hK => ?_)
  go_simp
  refine (implNear17 h t (y + kr) r' HR' W2).mono ?_
  rintro e w2 ⟨rfl, g2⟩
  have y0 := hide (grown_at17 g2 (unhide y0) (by simp))
  have y2 := hide (grown_at17 g2 (unhide y2) (by simp))
  have HG := hide (grown_trans (unhide HG) g2)
  refine hK.out _ _ (.inr (unhide y0)) ?_
  clear hK K
  try simp only [Act.put, List.setIfInBounds_toArray, List.set_cons_zero, List.set_cons_succ]
  refine tailL_step (fun K hK => ?_)
  go_simp
  refine hK.out _ _ (.inl rfl) ?_
  clear hK K
  refine tailL_nil (NoPanic.normal ?_)
  try simp only [Act.put]
  go_wp2
  refine wp_region_noPanic ?_
  refine wp_region_tailL 20 (fun W => W.heap[s]? = some (.cells #[.int .i64 h, .int .i64 t] 57 (0, 0))) [true, true, true, true, true, true, true, false, false, false, false] (by kernel_rfl) (fun _ _ _ _ _ h => h) rfl (by decide) (by kernel_rfl) (unhide y0) ?_
  have y0 : Hid (w2.drew.heap[s]? = _) := y0
  have y2 : Hid (w2.drew.heap[s + 1 + 1]? = _) := y2
  have HG : Hid (w.grownBy w2.drew none) := grown_drew (unhide HG)
  generalize w2.drew = W4 at *
  refine heldF_take (v := .agg #[.int .i64 h, .int .i64 t]) (Or.inl ⟨by rfl, ?_⟩) ?_
  · intro w' hSw
    exact exec_row 57 _ rfl s rfl _ _ hSw _ Try.underlying57 rfl (by kernel_rfl)
  try simp only [Act.put, List.setIfInBounds_toArray, List.set_cons_zero, List.set_cons_succ]
  refine heldF_take (v := ?_) (Or.inl ⟨by rfl, ?_⟩) ?_
  rotate_left 1
  · intro w' hSw
    go_simp
    try with_reducible rfl
  try simp only [Act.put, List.setIfInBounds_toArray, List.set_cons_zero, List.set_cons_succ]
  refine heldF_take (v := ?_) (Or.inl ⟨by rfl, ?_⟩) ?_
  rotate_left 1
  · intro w' hSw
    go_simp
    try with_reducible rfl
  try simp only [Act.put, List.setIfInBounds_toArray, List.set_cons_zero, List.set_cons_succ]
  refine heldF_take (v := ?_) (Or.inl ⟨by rfl, ?_⟩) ?_
  rotate_left 1
  · intro w' hSw
    go_simp
    try with_reducible rfl
  try simp only [Act.put, List.setIfInBounds_toArray, List.set_cons_zero, List.set_cons_succ]
  refine heldF_take (v := ?_) (Or.inl ⟨by rfl, ?_⟩) ?_
  rotate_left 1
  · intro w' hSw
    have cc := at17 hSw 0 rfl
    go_simp
    try with_reducible rfl
  try simp only [Act.put, List.setIfInBounds_toArray, List.set_cons_zero, List.set_cons_succ]
  refine heldF_take (v := ?_) (Or.inl ⟨by rfl, ?_⟩) ?_
  rotate_left 1
  · intro w' hSw
    go_simp
    try with_reducible rfl
  try simp only [Act.put, List.setIfInBounds_toArray, List.set_cons_zero, List.set_cons_succ]
  refine heldF_take (v := ?_) (Or.inl ⟨by rfl, ?_⟩) ?_
  rotate_left 1
  · intro w' hSw
    go_simp
    try with_reducible rfl
  try simp only [Act.put, List.setIfInBounds_toArray, List.set_cons_zero, List.set_cons_succ]
  refine heldF_skip ?_
  refine heldF_skip ?_
  refine heldF_skip ?_
  refine heldF_skip ?_
  refine heldF_nil ?_
  refine tailL_skip ?_
  refine tailL_skip ?_
  refine tailL_skip ?_
  refine tailL_skip ?_
  refine tailL_skip ?_
  refine tailL_skip ?_
  refine tailL_skip ?_
  refine tailL_step (fun K hK => ?_)
  go_simp
  refine (implRnd256 (454 * (u - h)) kb (by omega) HKB W4).mono ?_
  rintro e w4 ⟨rfl, rfl⟩
  refine hK.out _ _ (.inr (unhide y0)) ?_
  clear hK K
  try simp only [Act.put, List.setIfInBounds_toArray, List.set_cons_zero, List.set_cons_succ]
  refine tailL_step (fun K hK => ?_)
  go_simp
  refine hK.out _ _ (.inr (unhide y0)) ?_
  clear hK K
  try simp only [Act.put, List.setIfInBounds_toArray, List.set_cons_zero, List.set_cons_succ]
  refine tailL_step (fun K hK => ?_)
  go_simp
  refine (implNear17 h t (y + kb) b' HB' W4).mono ?_
  rintro e w4 ⟨rfl, g4⟩
  have y0 := hide (grown_at17 g4 (unhide y0) (by simp))
  have y2 := hide (grown_at17 g4 (unhide y2) (by simp))
  have HG := hide (grown_trans (unhide HG) g4)
  refine hK.out _ _ (.inr (unhide y0)) ?_
  clear hK K
  try simp only [Act.put, List.setIfInBounds_toArray, List.set_cons_zero, List.set_cons_succ]
  refine tailL_step (fun K hK => ?_)
  go_simp
  refine hK.out _ _ (.inl rfl) ?_
  clear hK K
  refine tailL_nil (NoPanic.normal ?_)
  try simp only [Act.put]
  go_wp2
  refine wp_region_noPanic ?_
  refine wp_region_tailL 20 (fun W => W.heap[s]? = some (.cells #[.int .i64 h, .int .i64 t] 57 (0, 0))) [true, true, true, true, true, true, true, true, true, false, false, false] (by kernel_rfl) (fun _ _ _ _ _ h => h) rfl (by decide) (by kernel_rfl) (unhide y0) ?_
  have y0 : Hid (w4.drew.heap[s]? = _) := y0
  have y2 : Hid (w4.drew.heap[s + 1 + 1]? = _) := y2
  have HG : Hid (w.grownBy w4.drew none) := grown_drew (unhide HG)
  generalize w4.drew = W5 at *
  refine heldF_take (v := .agg #[.int .i64 h, .int .i64 t]) (Or.inl ⟨by rfl, ?_⟩) ?_
  · intro w' hSw
    exact exec_row 57 _ rfl s rfl _ _ hSw _ Try.underlying57 rfl (by kernel_rfl)
  try simp only [Act.put, List.setIfInBounds_toArray, List.set_cons_zero, List.set_cons_succ]
  refine heldF_take (v := ?_) (Or.inl ⟨by rfl, ?_⟩) ?_
  rotate_left 1
  · intro w' hSw
    go_simp
    try with_reducible rfl
  try simp only [Act.put, List.setIfInBounds_toArray, List.set_cons_zero, List.set_cons_succ]
  refine heldF_take (v := ?_) (Or.inl ⟨by rfl, ?_⟩) ?_
  rotate_left 1
  · intro w' hSw
    go_simp
    try with_reducible rfl
  try simp only [Act.put, List.setIfInBounds_toArray, List.set_cons_zero, List.set_cons_succ]
  refine heldF_take (v := ?_) (Or.inl ⟨by rfl, ?_⟩) ?_
  rotate_left 1
  · intro w' hSw
    go_simp
    try with_reducible rfl
  try simp only [Act.put, List.setIfInBounds_toArray, List.set_cons_zero, List.set_cons_succ]
  refine heldF_take (v := ?_) (Or.inl ⟨by rfl, ?_⟩) ?_
  rotate_left 1
  · intro w' hSw
    go_simp
    try with_reducible rfl
  try simp only [Act.put, List.setIfInBounds_toArray, List.set_cons_zero, List.set_cons_succ]
  refine heldF_take (v := ?_) (Or.inl ⟨by rfl, ?_⟩) ?_
  rotate_left 1
  · intro w' hSw
    go_simp
    try with_reducible rfl
  try simp only [Act.put, List.setIfInBounds_toArray, List.set_cons_zero, List.set_cons_succ]
  refine heldF_take (v := ?_) (Or.inl ⟨by rfl, ?_⟩) ?_
  rotate_left 1
  · intro w' hSw
    go_simp
    try with_reducible rfl
  try simp only [Act.put, List.setIfInBounds_toArray, List.set_cons_zero, List.set_cons_succ]
  refine heldF_take (v := ?_) (Or.inl ⟨by rfl, ?_⟩) ?_
  rotate_left 1
  · intro w' hSw
    go_simp
    try with_reducible rfl
  try simp only [Act.put, List.setIfInBounds_toArray, List.set_cons_zero, List.set_cons_succ]
  refine heldF_take (v := ?_) (Or.inl ⟨by rfl, ?_⟩) ?_
  rotate_left 1
  · intro w' hSw
    go_simp
    try with_reducible rfl
  try simp only [Act.put, List.setIfInBounds_toArray, List.set_cons_zero, List.set_cons_succ]
  refine heldF_skip ?_
  refine heldF_skip ?_
  refine heldF_skip ?_
  refine heldF_nil ?_
  refine tailL_skip ?_
  refine tailL_skip ?_
  refine tailL_skip ?_
  refine tailL_skip ?_
  refine tailL_skip ?_
  refine tailL_skip ?_
  refine tailL_skip ?_
  refine tailL_skip ?_
  refine tailL_skip ?_
  refine tailL_step (fun K hK => ?_)
  go_simp
  refine (implRnd150 (256 * y - 77 * r' - 29 * b') kg (by omega) HKG W5).mono ?_
  rintro e w4 ⟨rfl, rfl⟩
  refine hK.out _ _ (.inr (unhide y0)) ?_
  clear hK K
  try simp only [Act.put, List.setIfInBounds_toArray, List.set_cons_zero, List.set_cons_succ]
  refine tailL_step (fun K hK => ?_)
  go_simp
  refine (implNear17 h t kg g' HG' W5).mono ?_
  rintro e w6 ⟨rfl, g6⟩
  have y2 := hide (grown_at17 g6 (unhide y2) (by simp))
  have y0 := hide (grown_at17 g6 (unhide y0) (by simp))
  have HG := hide (grown_trans (unhide HG) g6)
  refine hK.out _ _ (.inr (unhide y0)) ?_
  clear hK K
  try simp only [Act.put, List.setIfInBounds_toArray, List.set_cons_zero, List.set_cons_succ]
  refine tailL_step (fun K hK => ?_)
  go_simp
  refine hK.out _ _ (.inl rfl) ?_
  clear hK K
  refine tailL_nil (NoPanic.normal ?_)
  try simp only [Act.put]
  go_wp2_with (refine store_row rfl 83 _ _ rfl (s + 1 + 1) rfl #[.int .i64 (r'), .int .i64 (g'), .int .i64 (b')] rfl #[.int .i64 0, .int .i64 0, .int .i64 0] 83 (unhide y2) rfl (by kernel_rfl) (by simp [Value.oneCell']) ?_; intro w7 hB7 g7)
  refine bodyPost_ret (v := .agg #[.int .i64 (r'), .int .i64 (g'), .int .i64 (b')]) ?_ rfl ⟨rfl, ?_⟩
  · rw [results_c1 rfl]
    exact run_loadVar_row w7 _ 83 83 _ (0, 0) _ hB7 Try.underlying83 rfl (by kernel_rfl)
  · exact grown_new (unhide HG) g7 (fun g e => by simp at e; have := unhide HS; omega)

end Go.Proofs.Ytgknninkfdgebaa
