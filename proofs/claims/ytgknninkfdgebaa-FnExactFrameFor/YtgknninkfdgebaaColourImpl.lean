/-
  Colours in the program: rounding, the nearest colour of a depth, a pixel as a colour (written by gen_colimpl.py).
-/
import Derived.Test.YtgknninkfdgebaaColourPure
import Derived.Test.YtgknninkfdgebaaBetween
import Derived.Test.YtgknninkfdgebaaHeldTail
import Derived.Test.YtgknninkfdgebaaHeldLast
import Derived.Test.YtgknninkfdgebaaQuietLast
import Derived.Test.YtgknninkfdgebaaRowOps
import Derived.Deep.RegionHeld3
namespace Go.Proofs.Ytgknninkfdgebaa
open Go.RowKit

theorem divDown512 (n u : Int) (hn : -4000000000000000 ≤ n ∧ n ≤ 4000000000000000) (hu : Hid (n / 512 = u)) (w : World) :
    Calls Try.prog 61 #[.int .i64 n, .int .i64 512] w fun e w' => e = .returned (.int .i64 u) ∧ w = w' := by
  by_cases h : 0 ≤ n
  · have h1 : n.tmod 512 = n % 512 := Int.tmod_eq_emod_of_nonneg h
    have h2 : n.tdiv 512 = n / 512 := Int.tdiv_eq_ediv_of_nonneg h
    have h3 : decide (n % 512 < 0) = false := by simp; omega
    go_enter Try.func61, Try.ntmps61
    go_wp2
    go_ret
    exact ⟨ret_int (unhide hu), rfl⟩
  · obtain ⟨m, rfl⟩ : ∃ m, n = -m := ⟨-n, by omega⟩
    have h1 : (-m).tmod 512 = -(m % 512) := by rw [Int.neg_tmod, Int.tmod_eq_emod_of_nonneg (by omega)]
    have h2 : (-m).tdiv 512 = -(m / 512) := by rw [Int.neg_tdiv, Int.tdiv_eq_ediv_of_nonneg (by omega)]
    have hu' : u = (-m) / 512 := (unhide hu).symm
    by_cases h3 : m % 512 = 0
    · have h4 : decide (-(m % 512) < 0) = false := by simp; omega
      have h5 : -(m / 512) = u := by omega
      clear hu' hu
      go_enter Try.func61, Try.ntmps61
      go_wp2
      go_ret
      exact ⟨ret_int (by omega), rfl⟩
    · have h4 : decide (-(m % 512) < 0) = true := by simp; omega
      have h5 : -(m / 512) - 1 = u := by omega
      clear hu' hu
      go_enter Try.func61, Try.ntmps61
      go_wp2
      go_ret
      exact ⟨ret_int (by omega), rfl⟩

theorem implRnd256 (n u : Int) (hn : -1000000000000000 ≤ n ∧ n ≤ 1000000000000000) (hu : Hid (rndI n 256 = u)) (w : World) :
    Calls Try.prog 55 #[.int .i64 n, .int .i64 256] w fun e w' => e = .returned (.int .i64 u) ∧ w = w' := by
  have HU : Hid ((2 * n + 256) / 512 = u) := unhide hu
  clear hu
  go_enter Try.func55, Try.ntmps55
  go_wp2_with fail
  refine (divDown512 (2 * n + 256) u (by omega) HU w).mono ?_
  rintro e w1 ⟨rfl, rfl⟩
  go_wp2
  go_ret
  exact ⟨rfl, rfl⟩

theorem divDown300 (n u : Int) (hn : -4000000000000000 ≤ n ∧ n ≤ 4000000000000000) (hu : Hid (n / 300 = u)) (w : World) :
    Calls Try.prog 61 #[.int .i64 n, .int .i64 300] w fun e w' => e = .returned (.int .i64 u) ∧ w = w' := by
  by_cases h : 0 ≤ n
  · have h1 : n.tmod 300 = n % 300 := Int.tmod_eq_emod_of_nonneg h
    have h2 : n.tdiv 300 = n / 300 := Int.tdiv_eq_ediv_of_nonneg h
    have h3 : decide (n % 300 < 0) = false := by simp; omega
    go_enter Try.func61, Try.ntmps61
    go_wp2
    go_ret
    exact ⟨ret_int (unhide hu), rfl⟩
  · obtain ⟨m, rfl⟩ : ∃ m, n = -m := ⟨-n, by omega⟩
    have h1 : (-m).tmod 300 = -(m % 300) := by rw [Int.neg_tmod, Int.tmod_eq_emod_of_nonneg (by omega)]
    have h2 : (-m).tdiv 300 = -(m / 300) := by rw [Int.neg_tdiv, Int.tdiv_eq_ediv_of_nonneg (by omega)]
    have hu' : u = (-m) / 300 := (unhide hu).symm
    by_cases h3 : m % 300 = 0
    · have h4 : decide (-(m % 300) < 0) = false := by simp; omega
      have h5 : -(m / 300) = u := by omega
      clear hu' hu
      go_enter Try.func61, Try.ntmps61
      go_wp2
      go_ret
      exact ⟨ret_int (by omega), rfl⟩
    · have h4 : decide (-(m % 300) < 0) = true := by simp; omega
      have h5 : -(m / 300) - 1 = u := by omega
      clear hu' hu
      go_enter Try.func61, Try.ntmps61
      go_wp2
      go_ret
      exact ⟨ret_int (by omega), rfl⟩

theorem implRnd150 (n u : Int) (hn : -1000000000000000 ≤ n ∧ n ≤ 1000000000000000) (hu : Hid (rndI n 150 = u)) (w : World) :
    Calls Try.prog 55 #[.int .i64 n, .int .i64 150] w fun e w' => e = .returned (.int .i64 u) ∧ w = w' := by
  have HU : Hid ((2 * n + 150) / 300 = u) := unhide hu
  clear hu
  go_enter Try.func55, Try.ntmps55
  go_wp2_with fail
  refine (divDown300 (2 * n + 150) u (by omega) HU w).mono ?_
  rintro e w1 ⟨rfl, rfl⟩
  go_wp2
  go_ret
  exact ⟨rfl, rfl⟩

theorem implNear17 (h t n u : Int) (hu : Hid (clipI n t = u)) (w : World) :
    Calls Try.prog 54 #[.agg #[.int .i64 h, .int .i64 t], .int .i64 n] w fun e w' => e = .returned (.int .i64 u) ∧ w.grownBy w' none := by
  have hu' := unhide hu
  unfold clipI at hu'
  clear hu
  go_enter Try.func54, Try.ntmps54
  go_wp2
  all_goals
    go_ret
    refine ⟨ret_int ?_, grown_alloc (World.grownBy.refl _ _) _⟩
    first | omega | (split at * <;> omega)

theorem grown_at17 {a b : World} {g : Nat} {o : Obj} {row : Option Nat} (h : a.grownBy b row) (hg : a.heap[g]? = some o) (hne : row ≠ some g) : b.heap[g]? = some o :=
  (h.block g (Array.getElem?_eq_some_iff.1 hg).1 (Ne.symm hne)).trans hg
theorem at17 {w : World} {g : Nat} {l : Array Value} {t : TypeId} (h : w.heap[g]? = some (.cells l t (0, 0))) (i : Nat) {v : Value} (hv : l[i]? = some v) : w.cell? ⟨g, i, none⟩ = some v := by
  rw [cell_of_row w g i l t (0, 0) h]; exact hv

set_option maxRecDepth 20000 in
set_option maxHeartbeats 1600000 in
theorem implNearC (h t a b c a' b' c' : Int) (HA : Hid (clipI a t = a')) (HB : Hid (clipI b t = b')) (HC : Hid (clipI c t = c')) (w : World) :
    Calls Try.prog 60 #[.agg #[.int .i64 h, .int .i64 t], .agg #[.int .i64 (a), .int .i64 (b), .int .i64 (c)]] w fun e w' => e = .returned (.agg #[.int .i64 (a'), .int .i64 (b'), .int .i64 (c')]) ∧ w.grownBy w' none := by
  obtain ⟨W0, hW0⟩ : ∃ W0, ((w.alloc (.cells #[.int .i64 h, .int .i64 t] 57)).alloc (.cells #[.int .i64 (a), .int .i64 (b), .int .i64 (c)] 83)).alloc (.cells #[.int .i64 0, .int .i64 0, .int .i64 0] 83) = W0 := ⟨_, rfl⟩
  have HG0 : Hid (w.grownBy W0 none) := by rw [← hW0]; exact grown_alloc (grown_alloc (World.grownBy_alloc _ _ _) _) _
  have b0 : Hid (W0.heap[w.heap.size]? = some (.cells #[.int .i64 h, .int .i64 t] 57 (0, 0))) := by rw [← hW0, Below.heap_alloc _ _ _ (by simp <;> omega), Below.heap_alloc _ _ _ (by simp)]; exact heap_alloc_new w _
  have b1 : Hid (W0.heap[w.heap.size + 1]? = some (.cells #[.int .i64 (a), .int .i64 (b), .int .i64 (c)] 83 (0, 0))) := by
    rw [← hW0, Below.heap_alloc _ _ _ (by simp)]
    have := heap_alloc_new (w.alloc (.cells #[.int .i64 h, .int .i64 t] 57)) (.cells #[.int .i64 (a), .int .i64 (b), .int .i64 (c)] 83)
    unfold Hid
    simpa using this
  have b2 : Hid (W0.heap[w.heap.size + 1 + 1]? = some (.cells #[.int .i64 0, .int .i64 0, .int .i64 0] 83 (0, 0))) := by
    rw [← hW0]
    have := heap_alloc_new ((w.alloc (.cells #[.int .i64 h, .int .i64 t] 57)).alloc (.cells #[.int .i64 (a), .int .i64 (b), .int .i64 (c)] 83)) (.cells #[.int .i64 0, .int .i64 0, .int .i64 0] 83)
    unfold Hid
    simpa using this
  have HW := hide hW0
  clear hW0
  go_enter Try.func60, Try.ntmps60
  go_wp2_with fail
  rw [unhide HW]
  generalize hs : w.heap.size = s at *
  have HS := hide hs
  clear hs HW
  refine wp_region_noPanic ?_
  refine wp_region_tailL 20 (fun W => W.heap[s]? = some (.cells #[.int .i64 h, .int .i64 t] 57 (0, 0)) ∧ W.heap[s + 1]? = some (.cells #[.int .i64 (a), .int .i64 (b), .int .i64 (c)] 83 (0, 0)) ∧ W.heap[s + 1 + 1]? = some (.cells #[.int .i64 0, .int .i64 0, .int .i64 0] 83 (0, 0))) [true, true, true, false, true, true, true, false, true, true, true, false, false, false] (by kernel_rfl) (fun _ _ _ _ _ h => h) rfl (by decide) (by kernel_rfl) ⟨unhide b0, unhide b1, unhide b2⟩ ?_
  have B0 : Hid (W0.drew.heap[s]? = _) := b0
  have B1 : Hid (W0.drew.heap[s + 1]? = _) := b1
  have B2 : Hid (W0.drew.heap[s + 1 + 1]? = _) := b2
  have HG : Hid (w.grownBy W0.drew none) := grown_drew (unhide HG0)
  clear b0 b1 b2 HG0
  generalize W0.drew = W0 at *
  refine heldF_take (v := .agg #[.int .i64 h, .int .i64 t]) (Or.inl ⟨by rfl, ?_⟩) ?_
  · intro w' hSw
    exact exec_row 57 _ rfl s rfl _ _ hSw.1 _ Try.underlying57 rfl (by kernel_rfl)
  try simp only [Act.put, List.setIfInBounds_toArray, List.set_cons_zero, List.set_cons_succ]
  refine heldF_take (v := ?_) (Or.inl ⟨by rfl, ?_⟩) ?_
  rotate_left 1
  · intro w' hSw
    go_simp
    try with_reducible rfl
  try simp only [Act.put, List.setIfInBounds_toArray, List.set_cons_zero, List.set_cons_succ]
  refine heldF_take (v := ?_) (Or.inl ⟨by rfl, ?_⟩) ?_
  rotate_left 1
  · intro w' hSw
    have cc := at17 hSw.2.1 0 rfl
    go_simp
    try with_reducible rfl
  try simp only [Act.put, List.setIfInBounds_toArray, List.set_cons_zero, List.set_cons_succ]
  refine heldF_skip ?_
  refine heldF_take (v := .agg #[.int .i64 h, .int .i64 t]) (Or.inl ⟨by rfl, ?_⟩) ?_
  · intro w' hSw
    exact exec_row 57 _ rfl s rfl _ _ hSw.1 _ Try.underlying57 rfl (by kernel_rfl)
  try simp only [Act.put, List.setIfInBounds_toArray, List.set_cons_zero, List.set_cons_succ]
  refine heldF_take (v := ?_) (Or.inl ⟨by rfl, ?_⟩) ?_
  rotate_left 1
  · intro w' hSw
    go_simp
    try with_reducible rfl
  try simp only [Act.put, List.setIfInBounds_toArray, List.set_cons_zero, List.set_cons_succ]
  refine heldF_take (v := ?_) (Or.inl ⟨by rfl, ?_⟩) ?_
  rotate_left 1
  · intro w' hSw
    have cc := at17 hSw.2.1 1 rfl
    go_simp
    try with_reducible rfl
  try simp only [Act.put, List.setIfInBounds_toArray, List.set_cons_zero, List.set_cons_succ]
  refine heldF_skip ?_
  refine heldF_take (v := .agg #[.int .i64 h, .int .i64 t]) (Or.inl ⟨by rfl, ?_⟩) ?_
  · intro w' hSw
    exact exec_row 57 _ rfl s rfl _ _ hSw.1 _ Try.underlying57 rfl (by kernel_rfl)
  try simp only [Act.put, List.setIfInBounds_toArray, List.set_cons_zero, List.set_cons_succ]
  refine heldF_take (v := ?_) (Or.inl ⟨by rfl, ?_⟩) ?_
  rotate_left 1
  · intro w' hSw
    go_simp
    try with_reducible rfl
  try simp only [Act.put, List.setIfInBounds_toArray, List.set_cons_zero, List.set_cons_succ]
  refine heldF_take (v := ?_) (Or.inl ⟨by rfl, ?_⟩) ?_
  rotate_left 1
  · intro w' hSw
    have cc := at17 hSw.2.1 2 rfl
    go_simp
    try with_reducible rfl
  try simp only [Act.put, List.setIfInBounds_toArray, List.set_cons_zero, List.set_cons_succ]
  refine heldF_skip ?_
  refine heldF_skip ?_
  refine heldF_skip ?_
  refine heldF_nil ?_
  refine tailL_skip ?_
  refine tailL_skip ?_
  refine tailL_skip ?_
  refine tailL_step (fun K hK => ?_)
  go_simp
  refine (implNear17 h t a a' HA W0).mono ?_
  rintro e w1 ⟨rfl, g1⟩
  refine hK.out _ _ (.inr ⟨grown_at17 g1 (unhide B0) (by simp), grown_at17 g1 (unhide B1) (by simp), grown_at17 g1 (unhide B2) (by simp)⟩) ?_
  clear hK K
  try simp only [Act.put, List.setIfInBounds_toArray, List.set_cons_zero, List.set_cons_succ]
  refine tailL_skip ?_
  refine tailL_skip ?_
  refine tailL_skip ?_
  refine tailL_step (fun K hK => ?_)
  go_simp
  refine (implNear17 h t b b' HB w1).mono ?_
  rintro e w2 ⟨rfl, g2'⟩
  have g2 := grown_trans g1 g2'
  refine hK.out _ _ (.inr ⟨grown_at17 g2 (unhide B0) (by simp), grown_at17 g2 (unhide B1) (by simp), grown_at17 g2 (unhide B2) (by simp)⟩) ?_
  clear hK K
  try simp only [Act.put, List.setIfInBounds_toArray, List.set_cons_zero, List.set_cons_succ]
  refine tailL_skip ?_
  refine tailL_skip ?_
  refine tailL_skip ?_
  refine tailL_step (fun K hK => ?_)
  go_simp
  refine (implNear17 h t c c' HC w2).mono ?_
  rintro e w3 ⟨rfl, g3'⟩
  have g3 := grown_trans g2 g3'
  refine hK.out _ _ (.inr ⟨grown_at17 g3 (unhide B0) (by simp), grown_at17 g3 (unhide B1) (by simp), grown_at17 g3 (unhide B2) (by simp)⟩) ?_
  clear hK K
  try simp only [Act.put, List.setIfInBounds_toArray, List.set_cons_zero, List.set_cons_succ]
  refine tailL_step (fun K hK => ?_)
  go_simp
  refine hK.out _ _ (.inr ⟨grown_at17 g3 (unhide B0) (by simp), grown_at17 g3 (unhide B1) (by simp), grown_at17 g3 (unhide B2) (by simp)⟩) ?_
  clear hK K
  try simp only [Act.put, List.setIfInBounds_toArray, List.set_cons_zero, List.set_cons_succ]
  refine tailL_step (fun K hK => ?_)
  have B9 := hide (grown_at17 g3 (unhide B2) (by simp))
  refine step_store_row rfl 83 _ _ rfl (s + 1 + 1) rfl #[.int .i64 (a'), .int .i64 (b'), .int .i64 (c')] rfl _ 83 (unhide B9) rfl (by kernel_rfl) (by simp [Value.oneCell']) ?_
  intro w4 hB4 g4
  refine hK.out _ _ (.inl rfl) ?_
  clear hK K
  refine tailL_nil (NoPanic.normal ?_)
  try simp only [Act.put]
  have HGG := hide (grown_trans (unhide HG) g3)
  go_wp2
  refine bodyPost_ret (v := .agg #[.int .i64 (a'), .int .i64 (b'), .int .i64 (c')]) ?_ rfl ⟨rfl, ?_⟩
  · rw [results_c1 rfl]
    exact run_loadVar_row w4 _ 83 83 _ (0, 0) _ hB4 Try.underlying83 rfl (by kernel_rfl)
  · exact grown_new (unhide HGG) g4 (fun g e => by simp at e; have := unhide HS; omega)

end Go.Proofs.Ytgknninkfdgebaa
