/-
  GridImpl, DeepA, CoefEmpty, CoefCopy, GridLists, TreeGS, PlaneRows, PlanesImpl, PlanesHas, PlanesCoefs, FillPure, LoadIn.
-/
import Derived.Maps.AppendAt
import Derived.Deep.AppendLies
import Derived.Test.YtdhgfbdanijgaaaMDd

namespace Go.Proofs.Ytdhgfbdanijgaaa
open Go.RowKit Go.Shelf

theorem gridIndex (wd r c : Nat) (x y : Value) (hw : wd ≤ 4096) (hr : r ≤ 4096) (hc : c ≤ 4096) (k : Nat) (hk : Hid (r * wd + c = k)) (w : World) :
    Calls Try.prog 36 #[.agg #[.int .i64 (wd : Int), x, y], .int .i64 (r : Int), .int .i64 (c : Int)] w fun e w' => e = .returned (.int .i64 (k : Int)) ∧ w.grownBy w' none := by
  have h0 : r * wd ≤ 4096 * 4096 := Nat.mul_le_mul hr hw
  have h1 := i64_in ((r : Int) * (wd : Int)) (by rw [← Int.natCast_mul]; omega)
  have h2 := i64_in ((r : Int) * (wd : Int) + (c : Int)) (by rw [← Int.natCast_mul]; omega)
  have h3 : (r : Int) * (wd : Int) + (c : Int) = (k : Int) := by rw [← Int.natCast_mul, ← Int.natCast_add, unhide hk]
  go_enter Try.func36, Try.ntmps36
  go_wp2
  go_ret
  exact ⟨rfl, grown_alloc (World.grownBy.refl _ _) _⟩

theorem made_z64 (n j : Nat) (hj : j < n * 64) : (madeCells (Value.agg #[.int .i64 0, .int .i64 0, .int .i64 0, .int .i64 0, .int .i64 0, .int .i64 0, .int .i64 0, .int .i64 0, .int .i64 0, .int .i64 0, .int .i64 0, .int .i64 0, .int .i64 0, .int .i64 0, .int .i64 0, .int .i64 0, .int .i64 0, .int .i64 0, .int .i64 0, .int .i64 0, .int .i64 0, .int .i64 0, .int .i64 0, .int .i64 0, .int .i64 0, .int .i64 0, .int .i64 0, .int .i64 0, .int .i64 0, .int .i64 0, .int .i64 0, .int .i64 0, .int .i64 0, .int .i64 0, .int .i64 0, .int .i64 0, .int .i64 0, .int .i64 0, .int .i64 0, .int .i64 0, .int .i64 0, .int .i64 0, .int .i64 0, .int .i64 0, .int .i64 0, .int .i64 0, .int .i64 0, .int .i64 0, .int .i64 0, .int .i64 0, .int .i64 0, .int .i64 0, .int .i64 0, .int .i64 0, .int .i64 0, .int .i64 0, .int .i64 0, .int .i64 0, .int .i64 0, .int .i64 0, .int .i64 0, .int .i64 0, .int .i64 0, .int .i64 0]).cells (n * 64))[j]? = some (.int .i64 0) := by
  have h : ∀ i, i < 64 → (sq zs64)[i]? = some (.int .i64 0) := fun i hi => by
    have e0 : zs64.getD i 0 = 0 := by unfold zs64; rw [List.getD_eq_getElem?_getD, List.getElem?_replicate]; split <;> rfl
    rw [sq_at zs64 i (by rw [zs64_len]; exact hi), e0]
  rw [← sq_z64]
  have e : (Value.agg (sq zs64)).cells = sq zs64 := rfl
  rw [e]
  unfold madeCells
  have h2 := h (j % 64) (Nat.mod_lt _ (by decide))
  have hs : (sq zs64).size = 64 := by rw [sq_size, zs64_len]
  simp [hj, hs]
  rw [getElem!_def, h2]

set_option maxRecDepth 20000 in
set_option maxHeartbeats 1600000 in
theorem gridPut (wd ht g cap r c : Nat) (L : List (List Int)) (B : List Int) (hB : B.length = 64) (hw : wd ≤ 4096) (hr : r ≤ 4096) (hc : c ≤ 4096) (k : Nat) (hk : Hid (r * wd + c = k)) (hkl : k < L.length) (w : World) (hT : Th_gridrows w g L) :
    Calls Try.prog 38 #[.agg #[.int .i64 (wd : Int), .int .i64 (ht : Int), .slice (some ⟨g, 0, none⟩) L.length cap], .int .i64 (r : Int), .int .i64 (c : Int), .agg (sq B)] w fun e w' => (∃ v, e = .returned v) ∧ Th_gridrows w' g (L.set k B) ∧ w.grownBy w' (some g) := by
  have HSL : Hid ((sq B).size = 64) := by unfold Hid; rw [sq_size, hB]
  obtain ⟨W0, hW0⟩ : ∃ W0, (w.alloc (.cells #[.int .i64 (wd : Int), .int .i64 (ht : Int), .slice (some ⟨g, 0, none⟩) L.length cap] 76)).alloc (.cells (sq B) 62) = W0 := ⟨_, rfl⟩
  have G0 : w.grownBy W0 none := by rw [← hW0]; exact grown_alloc (World.grownBy_alloc _ _ _) _
  have b0 : W0.heap[w.heap.size]? = some (.cells #[.int .i64 (wd : Int), .int .i64 (ht : Int), .slice (some ⟨g, 0, none⟩) L.length cap] 76 (0, 0)) := by rw [← hW0, Below.heap_alloc _ _ _ (by simp)]; exact heap_alloc_new w _
  have b1 : W0.heap[w.heap.size + 1]? = some (.cells (sq B) 62 (0, 0)) := by
    rw [← hW0]
    have := heap_alloc_new (w.alloc (.cells #[.int .i64 (wd : Int), .int .i64 (ht : Int), .slice (some ⟨g, 0, none⟩) L.length cap] 76)) (.cells (sq B) 62)
    simpa using this
  have HT0 := hide (hT.grown G0)
  have HW := hide hW0
  have B0 := hide b0
  have B1 := hide b1
  have HG0 := hide G0
  clear hW0 b0 b1 G0 hT
  go_enter Try.func38, Try.ntmps38
  go_wp2
  rw [unhide HW]
  clear HW
  refine wp_region_noPanic ?_
  refine wp_region_tailL 20 (fun W => W0.drew.grownBy W none) [true, true, true, true, true, false, true, false, false] (by kernel_rfl) (fun _ _ _ _ _ h => h) rfl (by decide) (by kernel_rfl) (World.grownBy.refl _ _) ?_
  have bD : W0.drew.heap[w.heap.size]? = some (.cells #[.int .i64 (wd : Int), .int .i64 (ht : Int), .slice (some ⟨g, 0, none⟩) L.length cap] 76 (0, 0)) := unhide B0
  have bE : W0.drew.heap[w.heap.size + 1]? = some (.cells (sq B) 62 (0, 0)) := unhide B1
  have tD : Th_gridrows W0.drew g L := (unhide HT0).same rfl
  have gD : w.grownBy W0.drew none := grown_drew (unhide HG0)
  generalize W0.drew = W1 at *
  clear B0 B1 HT0 HG0 W0
  have BD := hide bD
  have BE := hide bE
  have c2 : W1.cell? ⟨w.heap.size, 2, none⟩ = some (.slice (some ⟨g, 0, none⟩) L.length cap) := by rw [cell_of_row W1 _ 2 _ _ (0, 0) bD]; rfl
  have C2 := hide c2
  clear c2 bD bE
  refine heldF_take (v := ?_) (Or.inl ⟨by rfl, ?_⟩) ?_
  rotate_left 1
  · intro w' hSw
    go_simp
    try with_reducible rfl
  simp only [Act.put, List.setIfInBounds_toArray, List.set_cons_zero, List.set_cons_succ]
  refine heldF_take (v := ?_) (Or.inl ⟨by rfl, ?_⟩) ?_
  rotate_left 1
  · intro w' hSw
    have c2' := hSw.cell (unhide C2) (by simp)
    go_simp
    try with_reducible rfl
  simp only [Act.put, List.setIfInBounds_toArray, List.set_cons_zero, List.set_cons_succ]
  refine heldF_take (v := .agg #[.int .i64 (wd : Int), .int .i64 (ht : Int), .slice (some ⟨g, 0, none⟩) L.length cap]) (Or.inl ⟨by rfl, ?_⟩) ?_
  · intro w' hSw
    exact exec_row 76 _ rfl w.heap.size rfl _ _ (grown_atT hSw (unhide BD) (by simp)) _ Try.underlying76 rfl (by kernel_rfl)
  simp only [Act.put, List.setIfInBounds_toArray, List.set_cons_zero, List.set_cons_succ]
  iterate 2
    refine heldF_take (v := ?_) (Or.inl ⟨by rfl, ?_⟩) ?_
    rotate_left 1
    · intro w' hSw
      go_simp
      try with_reducible rfl
    simp only [Act.put, List.setIfInBounds_toArray, List.set_cons_zero, List.set_cons_succ]
  refine heldF_skip ?_
  refine heldF_take (v := .agg (sq B)) (Or.inl ⟨by rfl, ?_⟩) ?_
  · intro w' hSw
    exact exec_row 62 _ rfl (w.heap.size + 1) rfl _ _ (grown_atT hSw (unhide BE) (by simp)) _ Try.underlying62 rfl (by rw [unhide HSL]; kernel_rfl)
  simp only [Act.put, List.setIfInBounds_toArray, List.set_cons_zero, List.set_cons_succ]
  refine heldF_skip (heldF_skip (heldF_nil ?_))
  refine tailL_skip (tailL_skip (tailL_skip (tailL_skip (tailL_skip ?_))))
  refine tailL_step (fun K hK => ?_)
  go_simp
  refine (gridIndex wd r c _ _ hw hr hc k hk W1).mono ?_
  rintro e w4 ⟨rfl, g4⟩
  refine hK.out _ _ (.inr g4) (tailL_skip ?_)
  clear hK K
  try simp only [Act.put, List.setIfInBounds_toArray, List.set_cons_zero, List.set_cons_succ]
  have t4 := tD.grown g4
  have i0 : (0 : Int) ≤ (k : Int) := by omega
  have i1 : (k : Int) < (L.length : Int) := by omega
  refine tailL_step (fun K hK => ?_)
  go_simp
  refine hK.out _ _ (.inr g4) ?_
  clear hK K
  try simp only [Act.put, List.setIfInBounds_toArray, List.set_cons_zero, List.set_cons_succ]
  refine tailL_step (fun K hK => ?_)
  rw [if_pos (by rfl)]
  refine wp_store_mid 62 _ _ rfl g (k * 64) (sq B) (by rfl) rfl (by rw [unhide HSL]; exact t4.th k hkl) (by rw [unhide HSL]; kernel_rfl) (sq_one _) ?_
  refine hK.out _ _ (.inl rfl) (tailL_nil (NoPanic.normal ?_))
  clear hK K
  simp only [Act.put]
  have t5 := t4.put k hkl B hB
  have g5 := grown_cells g (B.map (Value.int .i64)) (k * 64) w4
  have e5 : (sq B).toList = B.map (Value.int .i64) := by simp [sq]
  rw [e5]
  generalize w4.setCells g (k * 64) (B.map (Value.int .i64)) = w5 at *
  go_wp2
  go_end0
  exact ⟨⟨_, rfl⟩, t5, grown_trans (grown_any (grown_trans gD g4)) g5⟩

theorem areaHas (a b r c : Int) (ha : 0 ≤ a ∧ a ≤ 4096) (hb : 0 ≤ b ∧ b ≤ 4096) (t : Bool) (HT : Hid ((decide (0 ≤ r ∧ r ≤ b - 1) && decide (0 ≤ c ∧ c ≤ a - 1)) = t)) (w : World) :
    Calls Try.prog 48 #[.agg #[.int .i64 a, .int .i64 b], .int .i64 r, .int .i64 c] w fun e w' => e = .returned (.bool t) ∧ w.grownBy w' none := by
  have h1 := i64_in (b - 1) (by omega)
  have h2 := i64_in (a - 1) (by omega)
  obtain ⟨t1, HT1⟩ : ∃ t1, Hid (decide (0 ≤ r ∧ r ≤ b - 1) = t1) := ⟨_, rfl⟩
  obtain ⟨t2, HT2⟩ : ∃ t2, Hid (decide (0 ≤ c ∧ c ≤ a - 1) = t2) := ⟨_, rfl⟩
  have HTT : Hid ((t1 && t2) = t) := by unfold Hid; rw [← unhide HT1, ← unhide HT2]; exact unhide HT
  clear HT
  go_enter Try.func48, Try.ntmps48
  go_wp2_with fail
  refine (inRange r 0 (b - 1) t1 HT1 _).mono ?_
  rintro e w1 ⟨rfl, rfl⟩
  cases t1
  · have ht : t = false := by rw [← unhide HTT]; rfl
    subst ht
    go_wp2
    go_ret
    exact ⟨rfl, grown_alloc (World.grownBy.refl _ _) _⟩
  · have ht : t = t2 := by rw [← unhide HTT]; rfl
    subst ht
    go_wp2_with fail
    refine (inRange c 0 (a - 1) t HT2 _).mono ?_
    rintro e w1 ⟨rfl, rfl⟩
    go_wp2
    go_ret
    exact ⟨rfl, grown_alloc (World.grownBy.refl _ _) _⟩

set_option maxRecDepth 20000 in
set_option maxHeartbeats 1600000 in
theorem newGrid (wd ht n : Nat) (hw : wd ≤ 1024) (hh : ht ≤ 1024) (hn : Hid (wd * ht = n)) (w : World) :
    Calls Try.prog 31 #[.agg #[.int .i64 (wd : Int), .int .i64 (ht : Int)]] w fun e w' => ∃ g cap, e = .returned (.agg #[.int .i64 (wd : Int), .int .i64 (ht : Int), .slice (some ⟨g, 0, none⟩) n cap]) ∧ Th_gridrows w' g (List.replicate n noughts) ∧ w.heap.size ≤ g ∧ w.grownBy w' none := by
  have hn1 : n ≤ 1048576 := by rw [← unhide hn]; exact Nat.mul_le_mul hw hh
  have hni : (wd : Int) * (ht : Int) = (n : Int) := by rw [← Int.natCast_mul, unhide hn]
  obtain ⟨i0, hi, hz0, hz1, hz2⟩ := info_parts (show (Try.prog.info? 62).map (fun i => (i.zero, i.size, i.bytes)) = some (some (.agg #[.int .i64 0, .int .i64 0, .int .i64 0, .int .i64 0, .int .i64 0, .int .i64 0, .int .i64 0, .int .i64 0, .int .i64 0, .int .i64 0, .int .i64 0, .int .i64 0, .int .i64 0, .int .i64 0, .int .i64 0, .int .i64 0, .int .i64 0, .int .i64 0, .int .i64 0, .int .i64 0, .int .i64 0, .int .i64 0, .int .i64 0, .int .i64 0, .int .i64 0, .int .i64 0, .int .i64 0, .int .i64 0, .int .i64 0, .int .i64 0, .int .i64 0, .int .i64 0, .int .i64 0, .int .i64 0, .int .i64 0, .int .i64 0, .int .i64 0, .int .i64 0, .int .i64 0, .int .i64 0, .int .i64 0, .int .i64 0, .int .i64 0, .int .i64 0, .int .i64 0, .int .i64 0, .int .i64 0, .int .i64 0, .int .i64 0, .int .i64 0, .int .i64 0, .int .i64 0, .int .i64 0, .int .i64 0, .int .i64 0, .int .i64 0, .int .i64 0, .int .i64 0, .int .i64 0, .int .i64 0, .int .i64 0, .int .i64 0, .int .i64 0, .int .i64 0]), 64, 512) by kernel_rfl)
  have HI := hide hi
  have HZ0 := hide hz0
  have HZ1 := hide hz1
  have HZ2 := hide hz2
  clear hi hz0 hz1 hz2
  obtain ⟨W0, hW0⟩ : ∃ W0, (w.alloc (.cells #[.int .i64 (wd : Int), .int .i64 (ht : Int)] 73)).alloc (.cells #[.int .i64 0, .int .i64 0, .slice none 0 0] 76) = W0 := ⟨_, rfl⟩
  have G0 : w.grownBy W0 none := by rw [← hW0]; exact grown_alloc (World.grownBy_alloc _ _ _) _
  have b0 : W0.heap[w.heap.size]? = some (.cells #[.int .i64 (wd : Int), .int .i64 (ht : Int)] 73 (0, 0)) := by rw [← hW0, Below.heap_alloc _ _ _ (by simp)]; exact heap_alloc_new w _
  have b1 : W0.heap[w.heap.size + 1]? = some (.cells #[.int .i64 0, .int .i64 0, .slice none 0 0] 76 (0, 0)) := by
    rw [← hW0]
    have := heap_alloc_new (w.alloc (.cells #[.int .i64 (wd : Int), .int .i64 (ht : Int)] 73)) (.cells #[.int .i64 0, .int .i64 0, .slice none 0 0] 76)
    simpa using this
  have s0 : W0.heap.size = w.heap.size + 2 := by rw [← hW0]; simp
  have HW := hide hW0
  have B0 := hide b0
  have B1 := hide b1
  have HG0 := hide G0
  clear hW0 b0 b1 G0
  go_enter Try.func31, Try.ntmps31
  go_wp2
  rw [unhide HW]
  clear HW
  refine wp_region_noPanic ?_
  refine wp_region_tailL 20 (fun W => W0.drew.grownBy W none) [true, true, false, false, false, false] (by kernel_rfl) (fun _ _ _ _ _ h => h) rfl (by decide) (by kernel_rfl) (World.grownBy.refl _ _) ?_
  have BD : Hid (W0.drew.heap[w.heap.size]? = some (.cells #[.int .i64 (wd : Int), .int .i64 (ht : Int)] 73 (0, 0))) := unhide B0
  have BE : Hid (W0.drew.heap[w.heap.size + 1]? = some (.cells #[.int .i64 0, .int .i64 0, .slice none 0 0] 76 (0, 0))) := unhide B1
  have gD : w.grownBy W0.drew none := grown_drew (unhide HG0)
  have sD : W0.drew.heap.size = w.heap.size + 2 := s0
  generalize W0.drew = W1 at *
  clear B0 B1 HG0 s0 W0
  iterate 2
    refine heldF_take (v := .agg #[.int .i64 (wd : Int), .int .i64 (ht : Int)]) (Or.inl ⟨by rfl, ?_⟩) ?_
    · intro w' hSw
      exact exec_row 73 _ rfl w.heap.size rfl _ _ (grown_atT hSw (unhide BD) (by simp)) _ Try.underlying73 rfl (by kernel_rfl)
    simp only [Act.put, List.setIfInBounds_toArray, List.set_cons_zero, List.set_cons_succ]
  refine heldF_skip (heldF_skip (heldF_skip (heldF_skip (heldF_nil ?_))))
  refine tailL_skip (tailL_skip ?_)
  refine tailL_step (fun K hK => ?_)
  go_simp
  refine (areaCount (wd : Int) (ht : Int) (by omega) (by omega) W1).mono ?_
  rintro e w4 ⟨rfl, g4⟩
  rw [hni]
  refine hK.out _ _ (.inr g4) ?_
  clear hK K
  try simp only [Act.put, List.setIfInBounds_toArray, List.set_cons_zero, List.set_cons_succ]
  refine tailL_step (fun K hK => ?_)
  rw [if_pos (by rfl)]
  obtain ⟨w5, hrun, r1, r2⟩ := run_make_full (P := Try.prog) w4 w.heap.size 74 62 i0 (.agg #[.int .i64 0, .int .i64 0, .int .i64 0, .int .i64 0, .int .i64 0, .int .i64 0, .int .i64 0, .int .i64 0, .int .i64 0, .int .i64 0, .int .i64 0, .int .i64 0, .int .i64 0, .int .i64 0, .int .i64 0, .int .i64 0, .int .i64 0, .int .i64 0, .int .i64 0, .int .i64 0, .int .i64 0, .int .i64 0, .int .i64 0, .int .i64 0, .int .i64 0, .int .i64 0, .int .i64 0, .int .i64 0, .int .i64 0, .int .i64 0, .int .i64 0, .int .i64 0, .int .i64 0, .int .i64 0, .int .i64 0, .int .i64 0, .int .i64 0, .int .i64 0, .int .i64 0, .int .i64 0, .int .i64 0, .int .i64 0, .int .i64 0, .int .i64 0, .int .i64 0, .int .i64 0, .int .i64 0, .int .i64 0, .int .i64 0, .int .i64 0, .int .i64 0, .int .i64 0, .int .i64 0, .int .i64 0, .int .i64 0, .int .i64 0, .int .i64 0, .int .i64 0, .int .i64 0, .int .i64 0, .int .i64 0, .int .i64 0, .int .i64 0, .int .i64 0]) 64 Try.underlying74 (unhide HI) (unhide HZ0) (unhide HZ1) .i64 .i64 n (by rw [unhide HZ2]; omega) (by unfold maxLen; omega) (by have := g4.size; omega)
  have t5 : Th_gridrows w5 w4.heap.size (List.replicate n noughts) := Th_gridrows.made r1 (fun j hj => by
    rw [Array.getElem?_toList]
    exact made_z64 n j hj)
  have T5 := hide t5
  have g5 := grown_trans g4 r2
  have b5 := grown_atT g5 (unhide BE) (by simp)
  clear t5 r1
  unfold Oper.wp
  simp only [execOp, Act.eval, Result.andThen, Sem.run_bind]
  go_simp
  refine hK.out _ _ (.inr g5) ?_
  clear hK K hrun
  try simp only [Act.put, List.setIfInBounds_toArray, List.set_cons_zero, List.set_cons_succ]
  refine tailL_step (fun K hK => ?_)
  go_simp
  refine hK.out _ _ (.inr g5) ?_
  clear hK K
  try simp only [Act.put, List.setIfInBounds_toArray, List.set_cons_zero, List.set_cons_succ]
  refine tailL_step (fun K hK => ?_)
  refine step_store_row (by rfl) 76 _ _ rfl (w.heap.size + 1) rfl #[.int .i64 (wd : Int), .int .i64 (ht : Int), .slice (some ⟨w4.heap.size, 0, none⟩) n n] rfl _ 76 b5 rfl (by kernel_rfl) (by simp [Value.oneCell']) ?_
  intro w6 hB6 g6
  refine hK.out _ _ (.inl rfl) (tailL_nil (NoPanic.normal ?_))
  clear hK K
  simp only [Act.put]
  have s4 := g4.size
  have t6 := (unhide T5).same (g6.block w4.heap.size (unhide T5).lt (by simp; omega))
  go_wp2
  refine bodyPost_ret (v := .agg #[.int .i64 (wd : Int), .int .i64 (ht : Int), .slice (some ⟨w4.heap.size, 0, none⟩) n n]) ?_ rfl ⟨w4.heap.size, n, rfl, t6, by omega, ?_⟩
  · rw [results_c1 rfl]
    exact run_loadVar_row w6 _ 76 76 _ (0, 0) _ hB6 Try.underlying76 rfl (by kernel_rfl)
  · exact grown_new (grown_trans gD g5) g6 (fun g e => by simp at e; omega)

end Go.Proofs.Ytdhgfbdanijgaaa

namespace Go.Proofs.Ytdhgfbdanijgaaa
open Go.RowKit

theorem append_rowR {α : Type} {P : World → Value → α → List Nat → Prop} (hP : OwOk P) {e T : TypeId} (hT : Try.prog.underlying T = some (.slice e)) (hI : (Try.prog.info? e).map (fun i => (i.zero, i.size, i.bytes)) = some (some (.slice none 0 0), 1, 24))
    {w : World} {ops : Array Oper} {rest : List Oper} {o : Oper} {a : Act} {Q : Exit → Act → World → Prop} (hgd : o.guard = none) (s x : Operand)
    (ho : o.op = .call { callee := .builtin .append, args := #[s, x], argTypes := #[T, T] })
    (v : Value) (L : List α) (F : List Nat) (hs : a.eval s = v) (hown : OwR e P w v L F) (hF : F.Nodup) (u : Value) (b : α) (Fb : List Nat) (hu : P w u b Fb) (hFb : Fb.Nodup) (hd : ∀ x ∈ Fb, x ∉ F) (hx : a.eval x = .slice (some ⟨w.heap.size, 0, none⟩) 1 1) (hb : L.length ≤ 1000000) (R : List α) (hR : L ++ [b] = R)
    (h : ∀ v' w' F', OwR e P w' v' R F' → F'.Nodup → (∀ x ∈ F', x ∈ F ∨ x ∈ Fb ∨ w.heap.size ≤ x) → Wr (blk v) w w' → wpList Try.prog ops Q rest (a.put o.dst v') w') :
    wpList Try.prog ops Q (o :: rest) a (w.alloc (.cells #[u] e)) := by
  subst hR
  obtain ⟨i0, hi, hz0, hz1, hz2⟩ := info_parts hI
  obtain ⟨us, Fs, l1, l2, o1, els, rfl⟩ := hown
  obtain ⟨uo, un, uc, rfl⟩ := hP.form _ _ _ _ hu
  have hn := List.nodup_append.1 hF
  refine wpList_append_own_at _ hgd s x T ho 0 e i0 _ 1 24 hT hi hz0 hz1 hz2 rfl (by decide) v L.length _ hs (o1.alloc _) ⟨w.heap.size, 0, none⟩ 1 1 [.slice uo un uc] hx rfl (World.news_of_block (cs := #[.slice uo un uc]) (t := e) (fr := (0, 0)) (heap_alloc_new w _)) (by intro y hy; simp at hy; subst hy; rfl) (by unfold maxLen; omega) (by omega) (Nat.zero_le _) ?_
  intro v' w' h1 h2 _ h4
  have hga : w.grownBy w' v.ownBlock := ⟨h2.os, h2.tape, h2.output, by have h := h2.size; simp at h; omega, fun k hk hr => (h2.block k (by simp; omega) hr).trans (Below.heap_alloc _ _ _ hk)⟩
  have hw : Wr (blk v) w w' := Wr.ofRow hga (fun g e => mem_blk.2 e)
  have hvb : ∀ y, y ∈ blk v' → y ∈ blk v ∨ w.heap.size ≤ y := fun y hy => by
    rcases h4 with h4 | h4
    · exact .inl (mem_blk.2 (by rw [← h4]; exact mem_blk.1 hy))
    · have e1 := mem_blk.1 hy
      rw [h4] at e1
      have e2 : (w.alloc (.cells #[.slice uo un uc] e)).heap.size = y := Option.some.inj e1
      exact .inr (by simp at e2; omega)
  have hfl : (Fs ++ [Fb]).flatten = Fs.flatten ++ Fb := by simp
  have hlt : ∀ y ∈ Fs.flatten, y < w.heap.size := fun y hy => by
    obtain ⟨l, hl, hyl⟩ := List.mem_flatten.1 hy
    obtain ⟨i, hi, rfl⟩ := List.mem_iff_getElem.1 hl
    exact hP.lt w _ _ _ (els i (by omega)) y (by simpa [hi] using hyl)
  refine h v' w' (blk v' ++ (Fs ++ [Fb]).flatten) ⟨us ++ [.slice uo un uc], Fs ++ [Fb], by simp [l1], by simp [l2], ?_, fun i hi => ?_, rfl⟩ ?_ ?_ hw
  · rw [List.length_append]; exact h1
  · by_cases hil : i < L.length
    · have e1 : (us ++ [Value.slice uo un uc]).getD i (.slice none 0 0) = us.getD i (.slice none 0 0) := by simp [List.getElem?_append_left (show i < us.length by omega)]
      have e2 : (Fs ++ [Fb]).getD i [] = Fs.getD i [] := by simp [List.getElem?_append_left (show i < Fs.length by omega)]
      rw [e1, e2, List.getElem_append_left hil]
      exact hP.wr (els i hil) hw (fun y hy hy2 => hn.2.2 y hy2 y (flat_in (by omega) y hy) rfl)
    · have hie : i = L.length := by rw [List.length_append] at hi; simp at hi; omega
      subst hie
      have e1 : (us ++ [Value.slice uo un uc]).getD L.length (.slice none 0 0) = .slice uo un uc := by rw [← l1]; simp
      have e2 : (Fs ++ [Fb]).getD L.length [] = Fb := by rw [← l2]; simp
      rw [e1, e2, List.getElem_append_right (Nat.le_refl _)]
      simp only [Nat.sub_self, List.getElem_cons_zero]
      exact hP.wr hu hw (fun y hy hy2 => hd y hy (by simp [hy2]))
  · rw [hfl]
    refine List.nodup_append.2 ⟨by unfold blk; cases v'.ownBlock <;> simp, List.nodup_append.2 ⟨hn.2.1, hFb, fun y hy z hz => ?_⟩, fun y hy z hz => ?_⟩
    · rintro rfl
      exact hd y hz (by simp [hy])
    · rintro rfl
      rcases List.mem_append.1 hz with hz | hz
      · rcases hvb y hy with h5 | h5
        · exact hn.2.2 y h5 y hz rfl
        · have := hlt y hz; omega
      · rcases hvb y hy with h5 | h5
        · exact hd y hz (by simp [h5])
        · have := hP.lt w _ _ _ hu y hz; omega
  · intro y hy
    rw [hfl] at hy
    rcases List.mem_append.1 hy with hy | hy
    · rcases hvb y hy with h5 | h5
      · exact .inl (by simp [h5])
      · exact .inr (.inr h5)
    · rcases List.mem_append.1 hy with hy | hy
      · exact .inl (by simp [hy])
      · exact .inr (.inl hy)

/-- The same, in a region that draws its order. -/
theorem step_append_rowR {α : Type} {P : World → Value → α → List Nat → Prop} (hP : OwOk P) {e T : TypeId} (hT : Try.prog.underlying T = some (.slice e)) (hI : (Try.prog.info? e).map (fun i => (i.zero, i.size, i.bytes)) = some (some (.slice none 0 0), 1, 24))
    {w : World} {ops : Array Oper} {o : Oper} {a : Act} {K : Act → World → Prop} {Q : Exit → Act → World → Prop} {E : Prop} (hgd : o.guard = none) (s x : Operand)
    (ho : o.op = .call { callee := .builtin .append, args := #[s, x], argTypes := #[T, T] })
    (v : Value) (L : List α) (F : List Nat) (hs : a.eval s = v) (hown : OwR e P w v L F) (hF : F.Nodup) (u : Value) (b : α) (Fb : List Nat) (hu : P w u b Fb) (hFb : Fb.Nodup) (hd : ∀ x ∈ Fb, x ∉ F) (hx : a.eval x = .slice (some ⟨w.heap.size, 0, none⟩) 1 1) (hb : L.length ≤ 1000000) (R : List α) (hR : L ++ [b] = R)
    (h : ∀ v' w' F', OwR e P w' v' R F' → F'.Nodup → (∀ x ∈ F', x ∈ F ∨ x ∈ Fb ∨ w.heap.size ≤ x) → Wr (blk v) w w' → K (a.put o.dst v') w') :
    if Region.wanted o (yielded ops a.tmps) = true then Oper.wp Try.prog o a (w.alloc (.cells #[u] e)) K Q else E := by
  subst hR
  obtain ⟨i0, hi, hz0, hz1, hz2⟩ := info_parts hI
  obtain ⟨us, Fs, l1, l2, o1, els, rfl⟩ := hown
  obtain ⟨uo, un, uc, rfl⟩ := hP.form _ _ _ _ hu
  have hn := List.nodup_append.1 hF
  refine step_append_lies _ hgd s x T ho 0 e i0 _ 1 24 hT hi hz0 hz1 hz2 rfl (by decide) v L.length _ hs (o1.alloc _) ⟨w.heap.size, 0, none⟩ 1 1 [.slice uo un uc] hx rfl (World.news_of_block (cs := #[.slice uo un uc]) (t := e) (fr := (0, 0)) (heap_alloc_new w _)) (by intro y hy; simp at hy; subst hy; rfl) (by omega) (by unfold maxLen; omega) (by omega) (Nat.zero_le _) _ rfl ?_
  intro g0 cap0 w' h1 h2 h4' _
  obtain ⟨v', hv'⟩ : ∃ v', Value.slice (some ⟨g0, 0, none⟩) (L.length + 1) cap0 = v' := ⟨_, rfl⟩
  have h4 : v'.ownBlock = v.ownBlock ∨ v'.ownBlock = some (w.alloc (.cells #[.slice uo un uc] e)).heap.size := by
    rcases h4' with h5 | h5
    · left; rw [← hv', h5]; rfl
    · right; rw [← hv', ← h5]; rfl
  rw [hv'] at h1 ⊢
  clear hv' h4'
  have hga : w.grownBy w' v.ownBlock := ⟨h2.os, h2.tape, h2.output, by have h := h2.size; simp at h; omega, fun k hk hr => (h2.block k (by simp; omega) hr).trans (Below.heap_alloc _ _ _ hk)⟩
  have hw : Wr (blk v) w w' := Wr.ofRow hga (fun g e => mem_blk.2 e)
  have hvb : ∀ y, y ∈ blk v' → y ∈ blk v ∨ w.heap.size ≤ y := fun y hy => by
    rcases h4 with h4 | h4
    · exact .inl (mem_blk.2 (by rw [← h4]; exact mem_blk.1 hy))
    · have e1 := mem_blk.1 hy
      rw [h4] at e1
      have e2 : (w.alloc (.cells #[.slice uo un uc] e)).heap.size = y := Option.some.inj e1
      exact .inr (by simp at e2; omega)
  have hfl : (Fs ++ [Fb]).flatten = Fs.flatten ++ Fb := by simp
  have hlt : ∀ y ∈ Fs.flatten, y < w.heap.size := fun y hy => by
    obtain ⟨l, hl, hyl⟩ := List.mem_flatten.1 hy
    obtain ⟨i, hi, rfl⟩ := List.mem_iff_getElem.1 hl
    exact hP.lt w _ _ _ (els i (by omega)) y (by simpa [hi] using hyl)
  refine h v' w' (blk v' ++ (Fs ++ [Fb]).flatten) ⟨us ++ [.slice uo un uc], Fs ++ [Fb], by simp [l1], by simp [l2], ?_, fun i hi => ?_, rfl⟩ ?_ ?_ hw
  · rw [List.length_append]; exact h1
  · by_cases hil : i < L.length
    · have e1 : (us ++ [Value.slice uo un uc]).getD i (.slice none 0 0) = us.getD i (.slice none 0 0) := by simp [List.getElem?_append_left (show i < us.length by omega)]
      have e2 : (Fs ++ [Fb]).getD i [] = Fs.getD i [] := by simp [List.getElem?_append_left (show i < Fs.length by omega)]
      rw [e1, e2, List.getElem_append_left hil]
      exact hP.wr (els i hil) hw (fun y hy hy2 => hn.2.2 y hy2 y (flat_in (by omega) y hy) rfl)
    · have hie : i = L.length := by rw [List.length_append] at hi; simp at hi; omega
      subst hie
      have e1 : (us ++ [Value.slice uo un uc]).getD L.length (.slice none 0 0) = .slice uo un uc := by rw [← l1]; simp
      have e2 : (Fs ++ [Fb]).getD L.length [] = Fb := by rw [← l2]; simp
      rw [e1, e2, List.getElem_append_right (Nat.le_refl _)]
      simp only [Nat.sub_self, List.getElem_cons_zero]
      exact hP.wr hu hw (fun y hy hy2 => hd y hy (by simp [hy2]))
  · rw [hfl]
    refine List.nodup_append.2 ⟨by unfold blk; cases v'.ownBlock <;> simp, List.nodup_append.2 ⟨hn.2.1, hFb, fun y hy z hz => ?_⟩, fun y hy z hz => ?_⟩
    · rintro rfl
      exact hd y hz (by simp [hy])
    · rintro rfl
      rcases List.mem_append.1 hz with hz | hz
      · rcases hvb y hy with h5 | h5
        · exact hn.2.2 y h5 y hz rfl
        · have := hlt y hz; omega
      · rcases hvb y hy with h5 | h5
        · exact hd y hz (by simp [h5])
        · have := hP.lt w _ _ _ hu y hz; omega
  · intro y hy
    rw [hfl] at hy
    rcases List.mem_append.1 hy with hy | hy
    · rcases hvb y hy with h5 | h5
      · exact .inl (by simp [h5])
      · exact .inr (.inr h5)
    · rcases List.mem_append.1 hy with hy | hy
      · exact .inl (by simp [hy])
      · exact .inr (.inl hy)

end Go.Proofs.Ytdhgfbdanijgaaa

namespace Go.Proofs.Ytdhgfbdanijgaaa
open Go.RowKit

/-- Coefficients that are being made: in a box, with another one for the answer. -/
structure Em (w wr : World) (b0 : Obj) (pv : Value) (L : List (List (List Int))) (F : List Nat) : Prop where
  own : Ow3 wr pv L F
  nd : F.Nodup
  lo : ∀ g ∈ F, w.heap.size + 3 ≤ g
  fb : wr.heap[w.heap.size]? = some b0
  rb : wr.heap[w.heap.size + 1]? = some (.cells #[.slice none 0 0] 44 (0, 0))
  cb : wr.heap[w.heap.size + 2]? = some (.cells #[pv] 44 (0, 0))
  grown : w.grownBy wr none
theorem Em.size {w wr : World} {b0 : Obj} {pv : Value} {L : List (List (List Int))} {F : List Nat} (h : Em w wr b0 pv L F) : w.heap.size + 3 ≤ wr.heap.size := by
  have := (Array.getElem?_eq_some_iff.1 h.cb).1; omega
/-- Another row was written. -/
theorem Em.wr {w wr w' : World} {b0 : Obj} {pv : Value} {L : List (List (List Int))} {F G : List Nat} (h : Em w wr b0 pv L F) (g : Wr G wr w') (h1 : ∀ x ∈ G, w.heap.size + 3 ≤ x) (h2 : ∀ x ∈ F, x ∉ G) : Em w w' b0 pv L F := by
  have hs := h.size
  refine ⟨ok3.wr h.own g h2, h.nd, h.lo, (g.block _ (by omega) (fun e => ?_)).trans h.fb, (g.block _ (by omega) (fun e => ?_)).trans h.rb, (g.block _ (by omega) (fun e => ?_)).trans h.cb, g.new h.grown (fun x hx => by have := h1 x hx; omega)⟩
  all_goals have := h1 _ e; omega
theorem Em.new {w wr w' : World} {b0 : Obj} {pv : Value} {L : List (List (List Int))} {F : List Nat} (h : Em w wr b0 pv L F) (g : wr.grownBy w' none) : Em w w' b0 pv L F := h.wr (Wr.ofNone (F := []) g) (fun x hx => by simp at hx) (fun x _ => by simp)
/-- The box holds other ones. -/
theorem Em.put {w wr w' : World} {b0 : Obj} {pv pv' : Value} {L L' : List (List (List Int))} {F F' : List Nat} (h : Em w wr b0 pv L F) (g : Wr (blk pv) wr w') (ho : Ow3 w' pv' L' F') (hn : F'.Nodup) (hl : ∀ g ∈ F', w.heap.size + 3 ≤ g) (hb : ∀ g ∈ blk pv, w.heap.size + 3 ≤ g) : Em w (w'.setCell ⟨w.heap.size + 2, 0, none⟩ pv') b0 pv' L' F' := by
  have hs := h.size
  have G := grown_set w' (w.heap.size + 2) 0 pv'
  have hfb : w'.heap[w.heap.size]? = some b0 := (g.block _ (by omega) (fun e => by have := hb _ e; omega)).trans h.fb
  have hrb := (g.block (w.heap.size + 1) (by omega) (fun e => by have := hb _ e; omega)).trans h.rb
  have hcb := (g.block (w.heap.size + 2) (by omega) (fun e => by have := hb _ e; omega)).trans h.cb
  refine ⟨ok3.wr ho (Wr.ofRow (F := [w.heap.size + 2]) G (fun x e => by have := Option.some.inj e; simp [this])) (fun x hx e => by simp at e; have := hl x hx; omega), hn, hl, grown_atT G hfb (by simp), grown_atT G hrb (by simp), ?_, ?_⟩
  · exact heap_setCell_same w' _ 0 _ _ _ hcb
  · exact grown_new (g.new h.grown (fun x hx => by have := hb x hx; omega)) G (fun k e => by have := Option.some.inj e; omega)

theorem empty_next (bn : Nat → Nat) (i : Nat) : emptyG i bn ++ [List.replicate (bn i) noughts] = emptyG (i + 1) bn := by unfold emptyG; rw [List.range_succ, List.map_append]; rfl
theorem rep_next (k : Nat) : List.replicate k noughts ++ [noughts] = List.replicate (k + 1) noughts := by rw [List.replicate_succ']
theorem info_i11 : (Try.prog.info? 3).map (fun i => (i.zero, i.size, i.bytes)) = some (some (.int .i64 0), 1, 8) := by kernel_rfl

end Go.Proofs.Ytdhgfbdanijgaaa

namespace Go.Proofs.Ytdhgfbdanijgaaa
open Go.RowKit

theorem takeX_next {α : Type} (X : List α) (i : Nat) (h : i < X.length) : X.take i ++ [X[i]] = X.take (i + 1) := (List.take_succ_eq_append_getElem h).symm

end Go.Proofs.Ytdhgfbdanijgaaa

namespace Go.Proofs.Ytdhgfbdanijgaaa
open Go.RowKit Go.Shelf

theorem OwR.head {α : Type} {e : TypeId} {P : World → Value → α → List Nat → Prop} {w : World} {v : Value} {L : List α} {F : List Nat} (h : OwR e P w v L F) : ∀ x ∈ blk v, x ∈ F := by
  obtain ⟨us, Fs, _, _, _, _, rfl⟩ := h
  intro x hx
  simp [hx]
theorem OwR.none0 {α : Type} {e : TypeId} (P : World → Value → α → List Nat → Prop) {w : World} {v : Value} {base : Nat} (h : w.ownsRow base e 1 v 0 []) : OwR e P w v [] (blk v) :=
  ⟨[], [], rfl, rfl, own_base h (Nat.zero_le _), fun i hi => absurd hi (by simp), by simp⟩

end Go.Proofs.Ytdhgfbdanijgaaa

namespace Go.Proofs.Ytdhgfbdanijgaaa
open Go.RowKit

theorem step_append_rowsG {α : Type} {P : World → (Nat → Value) → α → List Nat → Prop} (hP : OkG P) {e T : TypeId} {sz bytes : Nat} {z : Value} (hT : Try.prog.underlying T = some (.slice e)) (hI : (Try.prog.info? e).map (fun i => (i.zero, i.size, i.bytes)) = some (some z, sz, bytes)) (hzs : z.cells.size = sz) (hsz : 0 < sz) (hbt : bytes ≤ 1000)
    {w : World} {ops : Array Oper} {o : Oper} {a : Act} {K : Act → World → Prop} {Q : Exit → Act → World → Prop} {E : Prop} (hgd : o.guard = none) (s x : Operand)
    (ho : o.op = .call { callee := .builtin .append, args := #[s, x], argTypes := #[T, T] })
    (v : Value) (L : List α) (F : List Nat) (hs : a.eval s = v) (hown : OwG e sz P w v L F) (hF : F.Nodup)
    (cs : Array Value) (m : Nat) (V : Nat → Nat → Value) (hcs : cs.toList = rowsK m sz V) (M : List α) (hM : M.length = m) (Gs : List (List Nat)) (hGs : Gs.length = m) (hu : ∀ i (h : i < M.length), P w (V i) M[i] (Gs.getD i [])) (hG : Gs.flatten.Nodup) (hd : ∀ x ∈ Gs.flatten, x ∉ F) (h1c : ∀ u ∈ cs.toList, u.oneCell' = true)
    (H : Nat) (hH : w.heap.size = H) (hx : a.eval x = .slice (some ⟨H, 0, none⟩) m m) (hm0 : 0 < m) (hb : L.length + m ≤ 1000000) (R : List α) (hR : L ++ M = R)
    (h : ∀ v' w' F', OwG e sz P w' v' R F' → F'.Nodup → (∀ x ∈ F', x ∈ F ∨ x ∈ Gs.flatten ∨ w.heap.size ≤ x) → Wr (blk v) w w' → K (a.put o.dst v') w') :
    if Region.wanted o (yielded ops a.tmps) = true then Oper.wp Try.prog o a (w.alloc (.cells cs e)) K Q else E := by
  subst hR
  subst hH
  obtain ⟨i0, hi, hz0, hz1, hz2⟩ := info_parts hI
  obtain ⟨U, Fs, l2, o1, els, rfl⟩ := hown
  have hn := List.nodup_append.1 hF
  have hbb : (L.length + m) * bytes ≤ 1000000 * 1000 := Nat.mul_le_mul hb hbt
  refine step_append_lies _ hgd s x T ho 0 e i0 _ sz bytes hT hi hz0 hz1 hz2 hzs hsz v L.length _ hs (o1.alloc _) ⟨w.heap.size, 0, none⟩ m m cs.toList hx (by rw [hcs, rowsK_len]) (World.news_of_block (cs := cs) (t := e) (fr := (0, 0)) (heap_alloc_new w _)) h1c hm0 (by unfold maxLen; omega) (by omega) (Nat.zero_le _) _ rfl ?_
  intro g0 cap0 w' h1 h2 h4' _
  obtain ⟨v', hv'⟩ : ∃ v', Value.slice (some ⟨g0, 0, none⟩) (L.length + m) cap0 = v' := ⟨_, rfl⟩
  have h4 : v'.ownBlock = v.ownBlock ∨ v'.ownBlock = some (w.alloc (.cells cs e)).heap.size := by
    rcases h4' with h5 | h5
    · left; rw [← hv', h5]; rfl
    · right; rw [← hv', ← h5]; rfl
  rw [hv'] at h1 ⊢
  clear hv' h4'
  have hga : w.grownBy w' v.ownBlock := ⟨h2.os, h2.tape, h2.output, by have h := h2.size; simp at h; omega, fun k hk hr => (h2.block k (by simp; omega) hr).trans (Below.heap_alloc _ _ _ hk)⟩
  have hw : Wr (blk v) w w' := Wr.ofRow hga (fun g e => mem_blk.2 e)
  have hvb : ∀ y, y ∈ blk v' → y ∈ blk v ∨ w.heap.size ≤ y := fun y hy => by
    rcases h4 with h4 | h4
    · exact .inl (mem_blk.2 (by rw [← h4]; exact mem_blk.1 hy))
    · have e1 := mem_blk.1 hy
      rw [h4] at e1
      have e2 : (w.alloc (.cells cs e)).heap.size = y := Option.some.inj e1
      exact .inr (by simp at e2; omega)
  have hfl : (Fs ++ Gs).flatten = Fs.flatten ++ Gs.flatten := by simp
  have hlt : ∀ y ∈ Fs.flatten, y < w.heap.size := fun y hy => by
    obtain ⟨l, hl, hyl⟩ := List.mem_flatten.1 hy
    obtain ⟨i, hi, rfl⟩ := List.mem_iff_getElem.1 hl
    exact hP.lt w _ _ _ (els i (by omega)) y (by simpa [hi] using hyl)
  have hltG : ∀ y ∈ Gs.flatten, y < w.heap.size := fun y hy => by
    obtain ⟨l, hl, hyl⟩ := List.mem_flatten.1 hy
    obtain ⟨i, hi, rfl⟩ := List.mem_iff_getElem.1 hl
    exact hP.lt w _ _ _ (hu i (by omega)) y (by simpa [hi] using hyl)
  refine h v' w' (blk v' ++ (Fs ++ Gs).flatten) ⟨fun i j => if i < L.length then U i j else V (i - L.length) j, Fs ++ Gs, by simp [l2, hGs, hM], ?_, fun i hi => ?_, rfl⟩ ?_ ?_ hw
  · rw [List.length_append, hM, ← rowsK_append L.length m sz hsz, ← hcs]; exact h1
  · by_cases hil : i < L.length
    · have e1 : (fun j => if i < L.length then U i j else V (i - L.length) j) = U i := by funext j; rw [if_pos hil]
      have e2 : (Fs ++ Gs).getD i [] = Fs.getD i [] := by simp [List.getElem?_append_left (show i < Fs.length by omega)]
      dsimp only
      rw [e1, e2, List.getElem_append_left hil]
      exact hP.wr (els i hil) hw (fun y hy hy2 => hn.2.2 y hy2 y (flat_in (by omega) y hy) rfl)
    · have him : i - L.length < M.length := by rw [List.length_append] at hi; omega
      have e1 : (fun j => if i < L.length then U i j else V (i - L.length) j) = V (i - L.length) := by funext j; rw [if_neg hil]
      have e2 : (Fs ++ Gs).getD i [] = Gs.getD (i - L.length) [] := by simp [List.getElem?_append_right (show Fs.length ≤ i by omega), l2]
      dsimp only
      rw [e1, e2, List.getElem_append_right (by omega)]
      exact hP.wr (hu (i - L.length) him) hw (fun y hy hy2 => hd y (flat_in (by omega) y hy) (by simp [hy2]))
  · rw [hfl]
    refine List.nodup_append.2 ⟨blk_nodup v', List.nodup_append.2 ⟨hn.2.1, hG, fun y hy z hz => ?_⟩, fun y hy z hz => ?_⟩
    · rintro rfl
      exact hd y hz (by simp [hy])
    · rintro rfl
      rcases List.mem_append.1 hz with hz | hz
      · rcases hvb y hy with h5 | h5
        · exact hn.2.2 y h5 y hz rfl
        · have := hlt y hz; omega
      · rcases hvb y hy with h5 | h5
        · exact hd y hz (by simp [h5])
        · have := hltG y hz; omega
  · intro y hy
    rw [hfl] at hy
    rcases List.mem_append.1 hy with hy | hy
    · rcases hvb y hy with h5 | h5
      · exact .inl (by simp [h5])
      · exact .inr (.inr h5)
    · rcases List.mem_append.1 hy with hy | hy
      · exact .inl (by simp [hy])
      · exact .inr (.inl hy)

end Go.Proofs.Ytdhgfbdanijgaaa

namespace Go.Proofs.Ytdhgfbdanijgaaa
open Go.RowKit Go.Shelf

/-- The cells of planes. -/
def plV (X : Array Value) (gv : Value) : Array Value := X ++ #[gv]
theorem plV_size {X : Array Value} (h : X.size = 21) (gv : Value) : (plV X gv).size = 22 := by simp [plV, h]
theorem plV_none : plV #[.int .i64 0, .int .i64 0, .int .i64 0, .int .i64 0, .int .i64 0, .int .i64 0, .int .i64 0, .int .i64 0, .int .i64 0, .int .i64 0, .int .i64 0, .int .i64 0, .int .i64 0, .int .i64 0, .int .i64 0, .int .i64 0, .int .i64 0, .int .i64 0, .int .i64 0, .int .i64 0, .int .i64 0] (.slice none 0 0) = #[.int .i64 0, .int .i64 0, .int .i64 0, .int .i64 0, .int .i64 0, .int .i64 0, .int .i64 0, .int .i64 0, .int .i64 0, .int .i64 0, .int .i64 0, .int .i64 0, .int .i64 0, .int .i64 0, .int .i64 0, .int .i64 0, .int .i64 0, .int .i64 0, .int .i64 0, .int .i64 0, .int .i64 0, .slice none 0 0] := rfl
theorem plV_one {X : Array Value} (h : X.all (·.oneCell') = true) {gv : Value} (hg : gv.oneCell' = true) : (plV X gv).all (·.oneCell') = true := by
  rw [Array.all_eq_true_iff_forall_mem] at h ⊢
  intro v hv
  simp only [plV, Array.mem_append, List.mem_toArray, List.mem_singleton] at hv
  rcases hv with hv | rfl
  · exact h v hv
  · exact hg
theorem pl_grids {X : Array Value} (h : X.size = 21) {gv : Value} {w : World} {b : Nat} {t : TypeId} (hb : w.heap[b]? = some (.cells (plV X gv) t (0, 0))) : w.cell? ⟨b, 21, none⟩ = some gv ∧ w.frozen? ⟨b, 21, none⟩ = false := by
  refine ⟨?_, frozen_of_row w b 21 _ _ hb⟩
  rw [cell_of_row w _ 21 _ _ (0, 0) hb]
  unfold plV
  rw [Array.getElem?_append_right (by omega), h]
  rfl
theorem pl_frame {X : Array Value} {gv : Value} {w : World} {b : Nat} {t : TypeId} (hb : w.heap[b]? = some (.cells (plV X gv) t (0, 0))) : ∀ j v, X[j]? = some v → w.cell? ⟨b, 0 + j, none⟩ = some v := by
  intro j v hv
  rw [Nat.zero_add, cell_of_row w _ j _ _ (0, 0) hb]
  have hj := (Array.getElem?_eq_some_iff.1 hv).1
  unfold plV
  rw [Array.getElem?_append_left hj]
  exact hv
theorem pl_set {X : Array Value} (h : X.size = 21) {gv : Value} {w : World} {b : Nat} {t : TypeId} (hb : w.heap[b]? = some (.cells (plV X gv) t (0, 0))) (gv' : Value) : (w.setCell ⟨b, 21, none⟩ gv').heap[b]? = some (.cells (plV X gv') t (0, 0)) := by
  have e : (plV X gv).setIfInBounds 21 gv' = plV X gv' := by
    unfold plV
    apply Array.ext_getElem?
    intro i
    rw [Array.getElem?_setIfInBounds]
    by_cases hi : 21 = i
    · subst hi
      rw [if_pos rfl, if_pos (by simp [h]), Array.getElem?_append_right (by omega), h]
      rfl
    · rw [if_neg hi]
      by_cases hl : i < X.size
      · rw [Array.getElem?_append_left hl, Array.getElem?_append_left hl]
      · rw [Array.getElem?_eq_none (by simp; omega), Array.getElem?_eq_none (by simp; omega)]
  rw [heap_setCell_same w b 21 _ _ _ hb, e]
theorem arr21 {X : Array Value} (h : X.size = 21) : ∃ x0 x1 x2 x3 x4 x5 x6 x7 x8 x9 x10 x11 x12 x13 x14 x15 x16 x17 x18 x19 x20, X = #[x0, x1, x2, x3, x4, x5, x6, x7, x8, x9, x10, x11, x12, x13, x14, x15, x16, x17, x18, x19, x20] := by
  obtain ⟨l⟩ := X
  have hl : l.length = 21 := by simpa using h
  match l, hl with
  | [x0, x1, x2, x3, x4, x5, x6, x7, x8, x9, x10, x11, x12, x13, x14, x15, x16, x17, x18, x19, x20], _ => exact ⟨x0, x1, x2, x3, x4, x5, x6, x7, x8, x9, x10, x11, x12, x13, x14, x15, x16, x17, x18, x19, x20, rfl⟩
/-- Planes of a frame and no grids yet. -/
theorem built_pl {X : Array Value} (h : X.size = 21) : Try.prog.built 56 [(0, .agg X)] = some (plV X (.slice none 0 0)) := by
  obtain ⟨x0, x1, x2, x3, x4, x5, x6, x7, x8, x9, x10, x11, x12, x13, x14, x15, x16, x17, x18, x19, x20, rfl⟩ := arr21 h
  kernel_rfl
theorem build_pl {ops : Array Oper} {rest : List Oper} {op : Oper} {a : Act} {w : World} {Q : Exit → Act → World → Prop} (hw : Region.wanted op (yielded ops a.tmps) = true) (x : Operand) (ho : op.op = .build 56 #[(0, x)]) (X : Array Value) (hs : X.size = 21) (hx : a.eval x = .agg X)
    (h : wpList Try.prog ops Q rest (a.put op.dst (.agg (plV X (.slice none 0 0)))) w) : wpList Try.prog ops Q (op :: rest) a w :=
  BigFrame.wpList_want hw fun K hK => by
    have hr := run_build (P := Try.prog) w 56 #[(0, .agg X)] _ (built_pl hs)
    unfold Oper.wp execOp
    simp only [ho, List.map_toArray, List.map_cons, List.map_nil, hx, Sem.run_bind, hr, Result.andThen_ok, Sem.run_pure]
    exact hK _ _ h

/-- New grids. -/
def newGr (n : Nat) (bw bh : Nat → Nat) : List Gd := (List.range n).map fun c => (bw c, bh c, List.replicate (bw c * bh c) noughts)
theorem newGr_next (bw bh : Nat → Nat) (i : Nat) : newGr i bw bh ++ [(bw i, bh i, List.replicate (bw i * bh i) noughts)] = newGr (i + 1) bw bh := by
  unfold newGr
  rw [List.range_succ, List.map_append]
  rfl
theorem newGr_len (n : Nat) (bw bh : Nat → Nat) : (newGr n bw bh).length = n := by simp [newGr]
theorem OwG.head {α : Type} {e : TypeId} {sz : Nat} {P : World → (Nat → Value) → α → List Nat → Prop} {w : World} {v : Value} {L : List α} {F : List Nat} (h : OwG e sz P w v L F) : ∀ x ∈ blk v, x ∈ F := by
  obtain ⟨U, Fs, _, _, _, rfl⟩ := h
  intro x hx
  simp [hx]
abbrev OwGr := OwG 76 3 GrP
theorem okGr : OwOk OwGr := OwG.ok GrP.ok

/-- Planes while they are made. -/
structure Ep (w wr : World) (X : Array Value) (gv : Value) (G : List Gd) (F : List Nat) : Prop where
  x : wr.heap[w.heap.size]? = some (.cells X 51 (0, 0))
  r : wr.heap[w.heap.size + 1]? = some (.cells #[.int .i64 0, .int .i64 0, .int .i64 0, .int .i64 0, .int .i64 0, .int .i64 0, .int .i64 0, .int .i64 0, .int .i64 0, .int .i64 0, .int .i64 0, .int .i64 0, .int .i64 0, .int .i64 0, .int .i64 0, .int .i64 0, .int .i64 0, .int .i64 0, .int .i64 0, .int .i64 0, .int .i64 0, .slice none 0 0] 56 (0, 0))
  all : wr.heap[w.heap.size + 2]? = some (.cells (plV X gv) 56 (0, 0))
  own : OwGr wr gv G F
  nd : F.Nodup
  lo : ∀ g ∈ F, w.heap.size + 3 ≤ g
  grown : w.grownBy wr none
theorem Ep.size {w wr : World} {X : Array Value} {gv : Value} {G : List Gd} {F : List Nat} (h : Ep w wr X gv G F) : w.heap.size + 3 ≤ wr.heap.size := (Array.getElem?_eq_some_iff.1 h.all).1
theorem Ep.new {w wr w' : World} {X : Array Value} {gv : Value} {G : List Gd} {F : List Nat} (h : Ep w wr X gv G F) (g : wr.grownBy w' none) : Ep w w' X gv G F :=
  ⟨grown_atT g h.x (by simp), grown_atT g h.r (by simp), grown_atT g h.all (by simp), okGr.keep h.own g, h.nd, h.lo, grown_trans h.grown g⟩

end Go.Proofs.Ytdhgfbdanijgaaa

namespace Go.Proofs.Ytdhgfbdanijgaaa
open Go.RowKit Go.Shelf

set_option maxRecDepth 20000 in
set_option maxHeartbeats 3200000 in
theorem emptyPlanes (X : Array Value) (hs : X.size = 21) (h1 : X.all (·.oneCell') = true) (n : Nat) (hn : n ≤ 4) (h4 : X[4]? = some (.int .i64 (n : Int))) (bw bh : Nat → Nat) (hbd : ∀ c, c < n → bw c ≤ 1024 ∧ bh c ≤ 1024)
    (HB : Hid (∀ c, c < n → ∀ W, Calls Try.prog 32 #[.agg X, .int .i64 (c : Int)] W fun e W' => e = .returned (.agg #[.int .i64 (bw c : Int), .int .i64 (bh c : Int)]) ∧ W.grownBy W' none)) (w : World) :
    Calls Try.prog 24 #[.agg X] w fun e w' => ∃ gv F, e = .returned (.agg (plV X gv)) ∧ OwGr w' gv (newGr n bw bh) F ∧ F.Nodup ∧ (∀ x ∈ F, w.heap.size ≤ x) ∧ w.grownBy w' none := by
  have HI : Hid ((Try.prog.info? 76).map (fun i => (i.zero, i.size, i.bytes)) = some (some (.agg #[.int .i64 0, .int .i64 0, .slice none 0 0]), 3, 40)) := by unfold Hid; kernel_rfl
  obtain ⟨W0, hW0⟩ : ∃ W0, (w.alloc (.cells X 51)).alloc (.cells #[.int .i64 0, .int .i64 0, .int .i64 0, .int .i64 0, .int .i64 0, .int .i64 0, .int .i64 0, .int .i64 0, .int .i64 0, .int .i64 0, .int .i64 0, .int .i64 0, .int .i64 0, .int .i64 0, .int .i64 0, .int .i64 0, .int .i64 0, .int .i64 0, .int .i64 0, .int .i64 0, .int .i64 0, .slice none 0 0] 56) = W0 := ⟨_, rfl⟩
  have G0 : w.grownBy W0 none := by rw [← hW0]; exact grown_alloc (World.grownBy_alloc _ _ _) _
  have b0 : W0.heap[w.heap.size]? = some (.cells X 51 (0, 0)) := by rw [← hW0, Below.heap_alloc _ _ _ (by simp)]; exact heap_alloc_new w _
  have b1 : W0.heap[w.heap.size + 1]? = some (.cells #[.int .i64 0, .int .i64 0, .int .i64 0, .int .i64 0, .int .i64 0, .int .i64 0, .int .i64 0, .int .i64 0, .int .i64 0, .int .i64 0, .int .i64 0, .int .i64 0, .int .i64 0, .int .i64 0, .int .i64 0, .int .i64 0, .int .i64 0, .int .i64 0, .int .i64 0, .int .i64 0, .int .i64 0, .slice none 0 0] 56 (0, 0)) := by
    rw [← hW0]
    have := heap_alloc_new (w.alloc (.cells X 51)) (.cells #[.int .i64 0, .int .i64 0, .int .i64 0, .int .i64 0, .int .i64 0, .int .i64 0, .int .i64 0, .int .i64 0, .int .i64 0, .int .i64 0, .int .i64 0, .int .i64 0, .int .i64 0, .int .i64 0, .int .i64 0, .int .i64 0, .int .i64 0, .int .i64 0, .int .i64 0, .int .i64 0, .int .i64 0, .slice none 0 0] 56)
    simpa using this
  have s0 : W0.heap.size = w.heap.size + 2 := by rw [← hW0]; simp
  have HW := hide hW0
  have B0 := hide b0
  have B1 := hide b1
  have HG0 := hide G0
  have HX4 := hide h4
  have HSX := hide hs
  have HBD := hide hbd
  have HX1 := hide h1
  have B2 : Hid ((W0.alloc (.cells #[.int .i64 0, .int .i64 0, .int .i64 0, .int .i64 0, .int .i64 0, .int .i64 0, .int .i64 0, .int .i64 0, .int .i64 0, .int .i64 0, .int .i64 0, .int .i64 0, .int .i64 0, .int .i64 0, .int .i64 0, .int .i64 0, .int .i64 0, .int .i64 0, .int .i64 0, .int .i64 0, .int .i64 0, .slice none 0 0] 56)).heap[w.heap.size + 2]? = some (.cells #[.int .i64 0, .int .i64 0, .int .i64 0, .int .i64 0, .int .i64 0, .int .i64 0, .int .i64 0, .int .i64 0, .int .i64 0, .int .i64 0, .int .i64 0, .int .i64 0, .int .i64 0, .int .i64 0, .int .i64 0, .int .i64 0, .int .i64 0, .int .i64 0, .int .i64 0, .int .i64 0, .int .i64 0, .slice none 0 0] 56 (0, 0))) := by unfold Hid; rw [← s0]; exact heap_alloc_new W0 _
  have HST : Hid (∀ w3 : World, w3.heap[w.heap.size + 2]? = some (.cells (plV X (.slice none 0 0)) 56 (0, 0)) → (W0.alloc (.cells #[.int .i64 0, .int .i64 0, .int .i64 0, .int .i64 0, .int .i64 0, .int .i64 0, .int .i64 0, .int .i64 0, .int .i64 0, .int .i64 0, .int .i64 0, .int .i64 0, .int .i64 0, .int .i64 0, .int .i64 0, .int .i64 0, .int .i64 0, .int .i64 0, .int .i64 0, .int .i64 0, .int .i64 0, .slice none 0 0] 56)).grownBy w3 (some (w.heap.size + 2)) → Ep w w3 X (.slice none 0 0) (newGr 0 bw bh) [] ∧ w3.cell? ⟨w.heap.size, 4, none⟩ = some (.int .i64 (n : Int))) := by
    intro w3 hB3 g3
    have ga : W0.grownBy (W0.alloc (.cells #[.int .i64 0, .int .i64 0, .int .i64 0, .int .i64 0, .int .i64 0, .int .i64 0, .int .i64 0, .int .i64 0, .int .i64 0, .int .i64 0, .int .i64 0, .int .i64 0, .int .i64 0, .int .i64 0, .int .i64 0, .int .i64 0, .int .i64 0, .int .i64 0, .int .i64 0, .int .i64 0, .int .i64 0, .slice none 0 0] 56)) none := World.grownBy_alloc _ _ _
    have g03 : w.grownBy w3 none := grown_new (grown_trans (unhide HG0) ga) g3 (fun g e => by simp at e; omega)
    have x3 := grown_atT g3 (grown_atT ga (unhide B0) (by simp)) (by simp)
    refine ⟨⟨x3, grown_atT g3 (grown_atT ga (unhide B1) (by simp)) (by simp), hB3, OwG.nil _ _ _ _, List.nodup_nil, fun g hg => by simp at hg, g03⟩, ?_⟩
    rw [cell_of_row w3 _ 4 _ _ (0, 0) x3]
    exact unhide HX4
  clear hW0 b0 b1 G0 h4 hs hbd h1
  go_enter Try.func24, Try.ntmps24
  go_wp2_with (first | (rw [unhide HW]; refine load_row rfl 51 _ rfl w.heap.size rfl X 51 (unhide B0) _ Try.underlying51 rfl (by rw [unhide HSX]; kernel_rfl) ?_) | (refine build_pl rfl _ rfl X (unhide HSX) rfl ?_) | (refine store_row rfl 56 _ _ rfl (w.heap.size + 2) (by rw [← s0]; rfl) (plV X (.slice none 0 0)) rfl #[.int .i64 0, .int .i64 0, .int .i64 0, .int .i64 0, .int .i64 0, .int .i64 0, .int .i64 0, .int .i64 0, .int .i64 0, .int .i64 0, .int .i64 0, .int .i64 0, .int .i64 0, .int .i64 0, .int .i64 0, .int .i64 0, .int .i64 0, .int .i64 0, .int .i64 0, .int .i64 0, .int .i64 0, .slice none 0 0] 56 (unhide B2) (by rw [plV_size (unhide HSX)]; rfl) (by rw [plV_size (unhide HSX)]; kernel_rfl) (plV_one (unhide HX1) rfl) ?_; intro w3 hB3 g3; obtain ⟨hE, x4⟩ := unhide HST w3 hB3 g3; have HE := hide hE; clear hB3 g3 hE))
  clear HW B0 B1 B2 HST
  clear x4
  go_loopw [9] (fun iv wr => ∃ (i : Nat) (gv : Value) (F : List Nat), i ≤ n ∧ iv = .int .i64 i ∧ Hid (Ep w wr X gv (newGr i bw bh) F)) (fun iv _ => n - (intOf iv).toNat)
  case atStart => exact ⟨0, _, _, Nat.zero_le _, rfl, HE⟩
  case round =>
    clear HE
    obtain ⟨i, gv, F, hi, rfl, hep⟩ := hrel
    by_cases hlt : i < n
    · have hltI : (i : Int) < (n : Int) := by omega
      go_wp2
      refine wp_region_noPanic ?_
      have ep1 := (unhide hep).new (grown_drew (World.grownBy.refl wr none))
      refine wp_region_tailL 20 (fun W => W.heap[w.heap.size]? = some (.cells X 51 (0, 0)) ∧ W.heap[w.heap.size + 2]? = some (.cells (plV X gv) 56 (0, 0))) [true, true, true, true, false, false, false, false, false, false] (by kernel_rfl) (fun _ _ _ _ _ h => h) rfl (by decide) (by kernel_rfl) ⟨ep1.x, ep1.all⟩ ?_
      generalize wr.drew = w4 at *
      have E4 := hide ep1
      clear ep1 hep
      refine heldF_take (v := ?_) (Or.inl ⟨by rfl, ?_⟩) ?_
      rotate_left 1
      · intro w' hSw
        clear hSw
        go_simp
        try with_reducible rfl
      simp only [Act.put, List.setIfInBounds_toArray, List.set_cons_zero, List.set_cons_succ]
      refine heldF_take (v := ?_) (Or.inl ⟨by rfl, ?_⟩) ?_
      rotate_left 1
      · intro w' hSw
        have cg := (pl_grids (unhide HSX) hSw.2).1
        clear hSw
        go_simp
        try with_reducible rfl
      simp only [Act.put, List.setIfInBounds_toArray, List.set_cons_zero, List.set_cons_succ]
      refine heldF_take (v := .agg X) (Or.inl ⟨by rfl, ?_⟩) ?_
      · intro w' hSw
        exact exec_row 51 _ rfl w.heap.size rfl _ _ hSw.1 _ Try.underlying51 rfl (by rw [unhide HSX]; kernel_rfl)
      simp only [Act.put, List.setIfInBounds_toArray, List.set_cons_zero, List.set_cons_succ]
      refine heldF_take (v := ?_) (Or.inl ⟨by rfl, ?_⟩) ?_
      rotate_left 1
      · intro w' hSw
        clear hSw
        go_simp
        try with_reducible rfl
      simp only [Act.put, List.setIfInBounds_toArray, List.set_cons_zero, List.set_cons_succ]
      refine heldF_skip (heldF_skip (heldF_skip (heldF_skip (heldF_skip (heldF_skip (heldF_nil ?_))))))
      refine tailL_skip (tailL_skip (tailL_skip (tailL_skip ?_)))
      refine tailL_step (fun K hK => ?_)
      go_simp
      refine (unhide HB i hlt w4).mono ?_
      rintro e w5 ⟨rfl, g5⟩
      have E5 := hide ((unhide E4).new g5)
      refine hK.out _ _ (.inr ⟨(unhide E5).x, (unhide E5).all⟩) ?_
      clear hK K g5 E4
      try simp only [Act.put, List.setIfInBounds_toArray, List.set_cons_zero, List.set_cons_succ]
      refine tailL_step (fun K hK => ?_)
      go_simp
      refine (newGrid (bw i) (bh i) _ (unhide HBD i hlt).1 (unhide HBD i hlt).2 rfl w5).mono ?_
      rintro e w6 ⟨g, cap, rfl, t6, hlo6, g6⟩
      have E6 := hide ((unhide E5).new g6)
      refine hK.out _ _ (.inr ⟨(unhide E6).x, (unhide E6).all⟩) ?_
      have T6 := hide t6
      have hl5 := (unhide E5).size
      have HNF : Hid (g ∉ F) := fun hg => by have := okGr.lt _ _ _ _ (unhide E5).own g hg; omega
      clear hK K g6 E5 t6
      try simp only [Act.put, List.setIfInBounds_toArray, List.set_cons_zero, List.set_cons_succ]
      obtain ⟨m, HM⟩ : ∃ m, Hid (bw i * bh i = m) := ⟨_, rfl⟩
      rw [unhide HM] at T6 ⊢
      refine tailL_step (fun K hK => ?_)
      go_simp
      have E7 := hide ((unhide E6).new (World.grownBy_alloc w6 (.cells #[.int .i64 (bw i : Int), .int .i64 (bh i : Int), .slice (some ⟨g, 0, none⟩) m cap] 76) none))
      refine hK.out _ _ (.inr ⟨(unhide E7).x, (unhide E7).all⟩) ?_
      clear hK K E7
      try simp only [Act.put, List.setIfInBounds_toArray, List.set_cons_zero, List.set_cons_succ]
      refine tailL_step (fun K hK => ?_)
      refine step_append_rowsG GrP.ok Try.underlying54 (unhide HI) rfl (by decide) (by decide) rfl _ _ rfl gv (newGr i bw bh) F rfl (unhide E6).own (unhide E6).nd _ 1 (fun _ j => (#[.int .i64 (bw i : Int), .int .i64 (bh i : Int), .slice (some ⟨g, 0, none⟩) m cap] : Array Value).getD j undef) rfl [(bw i, bh i, List.replicate m noughts)] rfl [[g]] rfl (fun j hj => ?_) (by simp) (fun x hx => by simp at hx; subst hx; exact unhide HNF) (by intro u hu; simp at hu; rcases hu with rfl | rfl | rfl <;> rfl) w6.heap.size rfl rfl (by decide) (by rw [newGr_len]; omega) (newGr (i + 1) bw bh) (by rw [← unhide HM]; exact newGr_next bw bh i) ?_
      · have hj0 : j = 0 := by simpa using hj
        subst hj0
        exact ⟨g, cap, rfl, rfl, by rw [List.getElem_cons_zero, List.length_replicate]; rfl, unhide T6, rfl⟩
      intro v8 w8 F8 o8 n8 m8 g8
      have hne : ∀ x ∈ blk gv, w.heap.size + 3 ≤ x := fun x hx => (unhide E6).lo x ((unhide E6).own.head x hx)
      have hs6 := (unhide E6).size
      have x8 : w8.heap[w.heap.size]? = some (.cells X 51 (0, 0)) := (g8.block _ (by omega) (fun e => by have := hne _ e; omega)).trans (unhide E6).x
      have r8 : w8.heap[w.heap.size + 1]? = some (.cells #[.int .i64 0, .int .i64 0, .int .i64 0, .int .i64 0, .int .i64 0, .int .i64 0, .int .i64 0, .int .i64 0, .int .i64 0, .int .i64 0, .int .i64 0, .int .i64 0, .int .i64 0, .int .i64 0, .int .i64 0, .int .i64 0, .int .i64 0, .int .i64 0, .int .i64 0, .int .i64 0, .int .i64 0, .slice none 0 0] 56 (0, 0)) := (g8.block _ (by omega) (fun e => by have := hne _ e; omega)).trans (unhide E6).r
      have a8 : w8.heap[w.heap.size + 2]? = some (.cells (plV X gv) 56 (0, 0)) := (g8.block _ (by omega) (fun e => by have := hne _ e; omega)).trans (unhide E6).all
      have gw8 : w.grownBy w8 none := Wr.new (unhide E6).grown g8 (fun x hx => by have := hne x hx; omega)
      have l8 : ∀ x ∈ F8, w.heap.size + 3 ≤ x := fun x hx => by
        rcases m8 x hx with h | h | h
        · exact (unhide E6).lo x h
        · simp at h; omega
        · omega
      refine hK.out _ _ (.inr ⟨x8, a8⟩) ?_
      obtain ⟨vo8, vc8, rfl⟩ := o8.form
      have ep9 : Ep w (w8.setCell ⟨w.heap.size + 2, 21, none⟩ (.slice vo8 (newGr (i + 1) bw bh).length vc8)) X (.slice vo8 (newGr (i + 1) bw bh).length vc8) (newGr (i + 1) bw bh) F8 := by
        have gs := grown_set w8 (w.heap.size + 2) 21 (.slice vo8 (newGr (i + 1) bw bh).length vc8)
        refine ⟨grown_atT gs x8 (by simp), grown_atT gs r8 (by simp), pl_set (unhide HSX) a8 _, okGr.wr o8 (Wr.ofRow (F := [w.heap.size + 2]) gs (fun q e => by have e9 := Option.some.inj e; simp [e9])) (fun x hx e => by simp at e; have := l8 x hx; omega), n8, l8, grown_new gw8 gs (fun q e => by simp at e; omega)⟩
      have E9 := hide ep9
      obtain ⟨ca, fa⟩ := pl_grids (unhide HSX) a8
      have X8 := hide x8
      have A8 := hide a8
      clear hK K ep9 o8 n8 m8 g8 x8 r8 a8 E6 T6 HNF l8 gw8 hne
      obtain ⟨ln, HLN⟩ : ∃ ln, Hid ((newGr (i + 1) bw bh).length = ln) := ⟨_, rfl⟩
      rw [unhide HLN] at E9 ⊢
      try simp only [Act.put, List.setIfInBounds_toArray, List.set_cons_zero, List.set_cons_succ]
      refine tailL_step (fun K hK => ?_)
      go_simp
      refine hK.out _ _ (.inr ⟨unhide X8, unhide A8⟩) ?_
      clear hK K
      try simp only [Act.put, List.setIfInBounds_toArray, List.set_cons_zero, List.set_cons_succ]
      refine tailL_step (fun K hK => ?_)
      go_simp
      refine hK.out _ _ (.inl rfl) (tailL_nil (NoPanic.normal ?_))
      clear hK K ca fa X8 A8
      generalize w8.setCell ⟨w.heap.size + 2, 21, none⟩ (.slice vo8 ln vc8) = w9 at *
      go_wp2
      go_roundw
      case rel => exact ⟨i + 1, _, F8, by omega, by go_num, E9⟩
      case measure => simp [intOf]; omega
    · obtain rfl : i = n := by omega
      obtain ⟨vo, vc, rfl⟩ := (unhide hep).own.form
      have ha := (unhide hep).all
      have hr := (unhide hep).r
      have hsz := (unhide hep).size
      go_wp2_with (first | (refine load_row rfl 56 _ rfl (w.heap.size + 2) rfl (plV X (.slice vo (newGr i bw bh).length vc)) 56 ha _ Try.underlying56 rfl (by rw [plV_size (unhide HSX)]; kernel_rfl) ?_) | (refine store_row rfl 56 _ _ rfl (w.heap.size + 1) rfl (plV X (.slice vo (newGr i bw bh).length vc)) rfl #[.int .i64 0, .int .i64 0, .int .i64 0, .int .i64 0, .int .i64 0, .int .i64 0, .int .i64 0, .int .i64 0, .int .i64 0, .int .i64 0, .int .i64 0, .int .i64 0, .int .i64 0, .int .i64 0, .int .i64 0, .int .i64 0, .int .i64 0, .int .i64 0, .int .i64 0, .int .i64 0, .int .i64 0, .slice none 0 0] 56 hr (by rw [plV_size (unhide HSX)]; rfl) (by rw [plV_size (unhide HSX)]; kernel_rfl) (plV_one (unhide HX1) rfl) ?_; intro w9 hB9 g9))
      refine bodyPost_ret (v := .agg (plV X (.slice vo (newGr i bw bh).length vc))) ?_ rfl ⟨_, F, rfl, ?_, (unhide hep).nd, fun x hx => by have := (unhide hep).lo x hx; omega, ?_⟩
      · rw [results_c1 rfl]
        exact run_loadVar_row w9 _ 56 56 _ (0, 0) _ hB9 Try.underlying56 rfl (by rw [plV_size (unhide HSX)]; kernel_rfl)
      · exact okGr.wr (unhide hep).own (Wr.ofRow (F := [w.heap.size + 1]) g9 (fun q e => by have e9 := Option.some.inj e; simp [e9])) (fun x hx e => by simp at e; have := (unhide hep).lo x hx; omega)
      · exact grown_new (unhide hep).grown g9 (fun q e => by simp at e; omega)

end Go.Proofs.Ytdhgfbdanijgaaa

namespace Go.Proofs.Ytdhgfbdanijgaaa
open Go.RowKit Go.Shelf

theorem exec_mid {P : Program} {ev : Operand → Value} {op : Oper} {w : World} (ty : TypeId) (x : Operand) (ho : op.op = .load ty x) (b o : Nat) (hx : ev x = .pointer (some ⟨b, o, none⟩)) (X : Array Value) (hb : ∀ j v, X[j]? = some v → w.cell? ⟨b, o + j, none⟩ = some v) (d : TypeDesc)
    (hu : P.underlying ty = some d) (hd : d.isRow = true) (hi : (P.info? ty).map (·.size) = some X.size) : (execOp ev op).run P w = .ok (.value (.agg X)) w := by
  unfold execOp
  have := run_loadAt_mid (P := P) w b o ty X.toList d (fun j v hv => hb j v (by simpa using hv)) hu hd (by simpa using hi)
  simp only [ho, hx, Sem.run_bind, this, Result.andThen_ok, Sem.run_pure, Array.toArray_toList]

theorem anyH_take {P : Program} {md : Region.Mode} {S : World → Prop} {Q : Exit → Act → World → Prop} {l : List Oper} {i f : Nat} {o : Oper} {v : Value} {listed : Array Bool} {a : Act} {w : World} (ho : l[i]? = some o)
    (hB : (Region.noSelect l.toArray && Region.free md l.toArray listed i && (Region.ready md l.toArray listed).contains i) = true) (hQ : ∀ c a w, Q (.panic c) (a.put o.dst v) w → Q (.panic c) a w) (hy : YieldsIf P l.toArray S o v a) (hS : S w)
    (h : wpAnyH P md l.toArray Q S f (listed.setIfInBounds i true) (a.put o.dst v) w) : wpAnyH P md l.toArray Q S (f + 1) listed a w := by
  simp only [Bool.and_eq_true] at hB
  exact wpAnyH_take (by simpa using ho) hB.1.1 hB.1.2 hB.2 hQ hy hS h

set_option maxRecDepth 20000 in
set_option maxHeartbeats 3200000 in
theorem planesShows (X : Array Value) (p wd ht rs : Int) (n : Nat) (C : Nat → Nat → Int) (hX : Fx X p wd ht rs n C) (hg : Geo wd ht n C (mostA 1 C 1 n) (mostA 1 C 2 n)) (gv : Value) (co ro cl : Int) (t : Bool) (HT : Hid ((decide (0 ≤ co ∧ co ≤ (n : Int) - 1) && (decide (0 ≤ ro ∧ ro ≤ (nhG ht n C co.toNat : Int) - 1) && decide (0 ≤ cl ∧ cl ≤ (nwG wd n C co.toNat : Int) - 1))) = t)) (w : World) :
    Calls Try.prog 37 #[.agg (plV X gv), .agg #[.int .i64 co, .int .i64 ro, .int .i64 cl]] w fun e w' => e = .returned (.bool t) ∧ w.grownBy w' none := by
  have hs := hX.size
  have hn4 := hg.n4
  obtain ⟨t1, HT1⟩ : ∃ t1, Hid (decide (0 ≤ co ∧ co ≤ (n : Int) - 1) = t1) := ⟨_, rfl⟩
  obtain ⟨t2, HT2⟩ : ∃ t2, Hid ((decide (0 ≤ ro ∧ ro ≤ (nhG ht n C co.toNat : Int) - 1) && decide (0 ≤ cl ∧ cl ≤ (nwG wd n C co.toNat : Int) - 1)) = t2) := ⟨_, rfl⟩
  have HTT : Hid ((t1 && t2) = t) := by unfold Hid; rw [← unhide HT1, ← unhide HT2]; exact unhide HT
  clear HT
  have HX := hide hX
  have HGE := hide hg
  have HSX := hide hs
  clear hX hg hs
  obtain ⟨W0, hW0⟩ : ∃ W0, ((w.alloc (.cells (plV X gv) 56)).alloc (.cells #[.int .i64 co, .int .i64 ro, .int .i64 cl] 86)) = W0 := ⟨_, rfl⟩
  have G0 : w.grownBy W0 none := by rw [← hW0]; exact grown_alloc (grown_alloc (World.grownBy.refl _ _) _) _
  have b0 : W0.heap[w.heap.size]? = some (.cells (plV X gv) 56 (0, 0)) := by
    rw [← hW0, Below.heap_alloc _ _ _ (by simp <;> omega)]
    have := heap_alloc_new w (.cells (plV X gv) 56)
    simpa using this
  have B0 := hide b0
  have b1 : W0.heap[w.heap.size + 1]? = some (.cells #[.int .i64 co, .int .i64 ro, .int .i64 cl] 86 (0, 0)) := by
    rw [← hW0]
    have := heap_alloc_new (w.alloc (.cells (plV X gv) 56)) (.cells #[.int .i64 co, .int .i64 ro, .int .i64 cl] 86)
    simpa using this
  have B1 := hide b1
  have s0 : W0.heap.size = w.heap.size + 2 := by rw [← hW0]; simp
  have HW := hide hW0
  have HG0 := hide G0
  clear hW0 G0 b0 b1
  go_enter Try.func37, Try.ntmps37
  go_wp2
  rw [unhide HW]
  clear HW
  refine wp_region_noPanic ?_
  refine wp_region_raw (fun W => W0.drew.grownBy W none) [true, true, true, true, false, false, false, false, false, false, false, false, false, false, false, false, false, false] (by kernel_rfl) (fun _ _ _ _ _ h => h) rfl (by kernel_rfl) (World.grownBy.refl _ _) ?_
  have BD0 : Hid (W0.drew.heap[w.heap.size]? = some (.cells (plV X gv) 56 (0, 0))) := unhide B0
  have BD1 : Hid (W0.drew.heap[w.heap.size + 1]? = some (.cells #[.int .i64 co, .int .i64 ro, .int .i64 cl] 86 (0, 0))) := unhide B1
  have gD : w.grownBy W0.drew none := grown_drew (unhide HG0)
  have sD : W0.drew.heap.size = w.heap.size + 2 := s0
  generalize W0.drew = W1 at *
  clear B0 B1 HG0 s0 W0
  have C0 : Hid (W1.cell? ⟨w.heap.size + 1, 0, none⟩ = some (.int .i64 co)) := by unfold Hid; rw [cell_of_row W1 _ 0 _ _ (0, 0) (unhide BD1)]; rfl
  have C1 : Hid (W1.cell? ⟨w.heap.size + 1, 1, none⟩ = some (.int .i64 ro)) := by unfold Hid; rw [cell_of_row W1 _ 1 _ _ (0, 0) (unhide BD1)]; rfl
  have C2 : Hid (W1.cell? ⟨w.heap.size + 1, 2, none⟩ = some (.int .i64 cl)) := by unfold Hid; rw [cell_of_row W1 _ 2 _ _ (0, 0) (unhide BD1)]; rfl
  refine heldF_take (v := ?_) (Or.inl ⟨by rfl, ?_⟩) ?_
  rotate_left 1
  · intro w' hSw
    go_simp
    try with_reducible rfl
  simp only [Act.put, List.setIfInBounds_toArray, List.set_cons_zero, List.set_cons_succ]
  refine heldF_take (v := .agg X) (Or.inl ⟨by rfl, ?_⟩) ?_
  · intro w' hSw
    exact exec_mid 51 _ rfl w.heap.size 0 rfl X (pl_frame (grown_atT hSw (unhide BD0) (by simp))) _ Try.underlying51 rfl (by rw [unhide HSX]; kernel_rfl)
  simp only [Act.put, List.setIfInBounds_toArray, List.set_cons_zero, List.set_cons_succ]
  refine heldF_take (v := ?_) (Or.inl ⟨by rfl, ?_⟩) ?_
  rotate_left 1
  · intro w' hSw
    go_simp
    try with_reducible rfl
  simp only [Act.put, List.setIfInBounds_toArray, List.set_cons_zero, List.set_cons_succ]
  refine heldF_take (v := ?_) (Or.inl ⟨by rfl, ?_⟩) ?_
  rotate_left 1
  · intro w' hSw
    have cc := hSw.cell (unhide C0) (by simp)
    go_simp
    try with_reducible rfl
  simp only [Act.put, List.setIfInBounds_toArray, List.set_cons_zero, List.set_cons_succ]
  refine heldF_skip (heldF_skip (heldF_skip (heldF_skip (heldF_skip (heldF_skip (heldF_skip (heldF_skip (heldF_skip (heldF_skip (heldF_skip (heldF_skip (heldF_skip (heldF_skip (heldF_nil ?_))))))))))))))
  refine anyH_step1 (i := 4) rfl (by kernel_rfl) (fun K hK => ?_)
  go_simp
  refine (hasComp X p wd ht rs n C (unhide HX) hn4 co t1 HT1 W1).mono ?_
  rintro e w2 ⟨rfl, g2⟩
  refine hK.out _ _ g2 ?_
  clear hK K
  try simp only [Act.put, List.setIfInBounds_toArray, List.set_cons_zero, List.set_cons_succ]
  refine anyH_step1 (i := 5) rfl (by kernel_rfl) (fun K hK => ?_)
  go_simp
  refine hK.out _ _ g2 ?_
  clear hK K
  try simp only [Act.put, List.setIfInBounds_toArray, List.set_cons_zero, List.set_cons_succ]
  cases t1
  · have ht : t = false := by rw [← unhide HTT]; rfl
    subst ht
    refine anyH_take (i := 6) (v := undef) rfl (by kernel_rfl) (fun _ _ _ h => h) (Or.inr ⟨by rfl, rfl⟩) g2 ?_
    try simp only [Act.put, List.setIfInBounds_toArray, List.set_cons_zero, List.set_cons_succ]
    refine anyH_take (i := 7) (v := undef) rfl (by kernel_rfl) (fun _ _ _ h => h) (Or.inr ⟨by rfl, rfl⟩) g2 ?_
    try simp only [Act.put, List.setIfInBounds_toArray, List.set_cons_zero, List.set_cons_succ]
    refine anyH_take (i := 8) (v := undef) rfl (by kernel_rfl) (fun _ _ _ h => h) (Or.inr ⟨by rfl, rfl⟩) g2 ?_
    try simp only [Act.put, List.setIfInBounds_toArray, List.set_cons_zero, List.set_cons_succ]
    refine anyH_take (i := 9) (v := undef) rfl (by kernel_rfl) (fun _ _ _ h => h) (Or.inr ⟨by rfl, rfl⟩) g2 ?_
    try simp only [Act.put, List.setIfInBounds_toArray, List.set_cons_zero, List.set_cons_succ]
    refine anyH_take (i := 11) (v := undef) rfl (by kernel_rfl) (fun _ _ _ h => h) (Or.inr ⟨by rfl, rfl⟩) g2 ?_
    try simp only [Act.put, List.setIfInBounds_toArray, List.set_cons_zero, List.set_cons_succ]
    refine anyH_take (i := 12) (v := undef) rfl (by kernel_rfl) (fun _ _ _ h => h) (Or.inr ⟨by rfl, rfl⟩) g2 ?_
    try simp only [Act.put, List.setIfInBounds_toArray, List.set_cons_zero, List.set_cons_succ]
    refine anyH_take (i := 13) (v := undef) rfl (by kernel_rfl) (fun _ _ _ h => h) (Or.inr ⟨by rfl, rfl⟩) g2 ?_
    try simp only [Act.put, List.setIfInBounds_toArray, List.set_cons_zero, List.set_cons_succ]
    refine anyH_take (i := 14) (v := undef) rfl (by kernel_rfl) (fun _ _ _ h => h) (Or.inr ⟨by rfl, rfl⟩) g2 ?_
    try simp only [Act.put, List.setIfInBounds_toArray, List.set_cons_zero, List.set_cons_succ]
    refine anyH_step1 (i := 10) rfl (by kernel_rfl) (fun K hK => ?_)
    go_simp
    refine hK.out _ _ g2 ?_
    clear hK K
    try simp only [Act.put, List.setIfInBounds_toArray, List.set_cons_zero, List.set_cons_succ]
    refine anyH_step1 (i := 15) rfl (by kernel_rfl) (fun K hK => ?_)
    go_simp
    refine hK.out _ _ g2 ?_
    clear hK K
    try simp only [Act.put, List.setIfInBounds_toArray, List.set_cons_zero, List.set_cons_succ]
    refine anyH_step1 (i := 16) rfl (by kernel_rfl) (fun K hK => ?_)
    go_simp
    refine hK.out _ _ g2 ?_
    clear hK K
    try simp only [Act.put, List.setIfInBounds_toArray, List.set_cons_zero, List.set_cons_succ]
    refine anyH_step1 (i := 17) rfl (by kernel_rfl) (fun K hK => ?_)
    go_simp
    refine hK.out _ _ g2 ?_
    clear hK K
    try simp only [Act.put, List.setIfInBounds_toArray, List.set_cons_zero, List.set_cons_succ]
    refine wpAnyH_done (by kernel_rfl) (NoPanic.normal ?_) _
    go_wp2
    go_ret
    exact ⟨rfl, grown_trans gD g2⟩
  · have ht : t = t2 := by rw [← unhide HTT]; rfl
    subst ht
    have hco : 0 ≤ co ∧ co ≤ (n : Int) - 1 := of_decide_eq_true (unhide HT1)
    obtain ⟨c, rfl⟩ := Int.eq_ofNat_of_zero_le hco.1
    have hcn : c < n := by omega
    have hd := dims_of (unhide HGE) c hcn
    rw [Int.toNat_natCast] at HT2
    refine anyH_take (i := 6) (v := ?_) rfl (by kernel_rfl) (fun _ _ _ h => h) (Or.inl ⟨by rfl, ?_⟩) g2 ?_
    rotate_left 1
    · intro w' hSw
      go_simp
      try with_reducible rfl
    try simp only [Act.put, List.setIfInBounds_toArray, List.set_cons_zero, List.set_cons_succ]
    refine anyH_take (i := 7) (v := .agg X) rfl (by kernel_rfl) (fun _ _ _ h => h) (Or.inl ⟨by rfl, ?_⟩) g2 ?_
    · intro w' hSw
      exact exec_mid 51 _ rfl w.heap.size 0 rfl X (pl_frame (grown_atT hSw (unhide BD0) (by simp))) _ Try.underlying51 rfl (by rw [unhide HSX]; kernel_rfl)
    try simp only [Act.put, List.setIfInBounds_toArray, List.set_cons_zero, List.set_cons_succ]
    refine anyH_take (i := 8) (v := ?_) rfl (by kernel_rfl) (fun _ _ _ h => h) (Or.inl ⟨by rfl, ?_⟩) g2 ?_
    rotate_left 1
    · intro w' hSw
      go_simp
      try with_reducible rfl
    try simp only [Act.put, List.setIfInBounds_toArray, List.set_cons_zero, List.set_cons_succ]
    refine anyH_take (i := 9) (v := ?_) rfl (by kernel_rfl) (fun _ _ _ h => h) (Or.inl ⟨by rfl, ?_⟩) g2 ?_
    rotate_left 1
    · intro w' hSw
      have cc := hSw.cell (unhide C0) (by simp)
      go_simp
      try with_reducible rfl
    try simp only [Act.put, List.setIfInBounds_toArray, List.set_cons_zero, List.set_cons_succ]
    refine anyH_take (i := 11) (v := ?_) rfl (by kernel_rfl) (fun _ _ _ h => h) (Or.inl ⟨by rfl, ?_⟩) g2 ?_
    rotate_left 1
    · intro w' hSw
      go_simp
      try with_reducible rfl
    try simp only [Act.put, List.setIfInBounds_toArray, List.set_cons_zero, List.set_cons_succ]
    refine anyH_take (i := 12) (v := ?_) rfl (by kernel_rfl) (fun _ _ _ h => h) (Or.inl ⟨by rfl, ?_⟩) g2 ?_
    rotate_left 1
    · intro w' hSw
      have cc := hSw.cell (unhide C1) (by simp)
      go_simp
      try with_reducible rfl
    try simp only [Act.put, List.setIfInBounds_toArray, List.set_cons_zero, List.set_cons_succ]
    refine anyH_take (i := 13) (v := ?_) rfl (by kernel_rfl) (fun _ _ _ h => h) (Or.inl ⟨by rfl, ?_⟩) g2 ?_
    rotate_left 1
    · intro w' hSw
      go_simp
      try with_reducible rfl
    try simp only [Act.put, List.setIfInBounds_toArray, List.set_cons_zero, List.set_cons_succ]
    refine anyH_take (i := 14) (v := ?_) rfl (by kernel_rfl) (fun _ _ _ h => h) (Or.inl ⟨by rfl, ?_⟩) g2 ?_
    rotate_left 1
    · intro w' hSw
      have cc := hSw.cell (unhide C2) (by simp)
      go_simp
      try with_reducible rfl
    try simp only [Act.put, List.setIfInBounds_toArray, List.set_cons_zero, List.set_cons_succ]
    refine anyH_step1 (i := 10) rfl (by kernel_rfl) (fun K hK => ?_)
    go_simp
    refine (needed X p wd ht rs n C (unhide HX) _ _ (unhide HGE) c hcn _ _ (nwG wd n C c : Int) (nhG ht n C c : Int) rfl rfl hd.nw hd.nh w2).mono ?_
    rintro e w3 ⟨rfl, g3⟩
    have g23 := grown_trans g2 g3
    refine hK.out _ _ g23 ?_
    clear hK K
    try simp only [Act.put, List.setIfInBounds_toArray, List.set_cons_zero, List.set_cons_succ]
    refine anyH_step1 (i := 15) rfl (by kernel_rfl) (fun K hK => ?_)
    go_simp
    refine (areaHas (nwG wd n C c : Int) (nhG ht n C c : Int) ro cl (by have := hd.nw1; omega) (by have := hd.nh1; omega) t HT2 w3).mono ?_
    rintro e w4 ⟨rfl, g4⟩
    have g24 := grown_trans g23 g4
    refine hK.out _ _ g24 ?_
    clear hK K
    try simp only [Act.put, List.setIfInBounds_toArray, List.set_cons_zero, List.set_cons_succ]
    refine anyH_step1 (i := 16) rfl (by kernel_rfl) (fun K hK => ?_)
    go_simp
    refine hK.out _ _ g24 ?_
    clear hK K
    try simp only [Act.put, List.setIfInBounds_toArray, List.set_cons_zero, List.set_cons_succ]
    refine anyH_step1 (i := 17) rfl (by kernel_rfl) (fun K hK => ?_)
    go_simp
    refine hK.out _ _ g24 ?_
    clear hK K
    try simp only [Act.put, List.setIfInBounds_toArray, List.set_cons_zero, List.set_cons_succ]
    refine wpAnyH_done (by kernel_rfl) (NoPanic.normal ?_) _
    go_wp2
    go_ret
    exact ⟨rfl, grown_trans gD g24⟩

/-- A grid of planes. -/
theorem grid_at {w : World} {gv : Value} {G : List Gd} {F : List Nat} (h : OwGr w gv G F) (hF : F.Nodup) (c : Nat) (hc : c < G.length) : ∃ gr cap g gc, gv = .slice (some ⟨gr, 0, none⟩) G.length cap ∧ w.cell? ⟨gr, c * 3, none⟩ = some (.int .i64 ((G.getD c (0, 0, [])).1 : Int)) ∧ w.cell? ⟨gr, c * 3 + 1, none⟩ = some (.int .i64 ((G.getD c (0, 0, [])).2.1 : Int)) ∧
    w.cell? ⟨gr, c * 3 + 2, none⟩ = some (.slice (some ⟨g, 0, none⟩) (G.getD c (0, 0, [])).2.2.length gc) ∧ Th_gridrows w g (G.getD c (0, 0, [])).2.2 ∧ gr ∈ F ∧ g ∈ F ∧ g ≠ gr ∧
    ∀ w' L', Wr [g] w w' → Th_gridrows w' g L' → L'.length = (G.getD c (0, 0, [])).2.2.length → ∃ F', OwGr w' gv (G.set c ((G.getD c (0, 0, [])).1, (G.getD c (0, 0, [])).2.1, L')) F' ∧ F'.Nodup ∧ ∀ x ∈ F', x ∈ F := by
  have e : G.getD c (0, 0, []) = G[c] := by simp [hc]
  rw [e]
  obtain ⟨gr, cap, cs, Fi, rfl, hgr, hgi, hcells, _, ⟨g, gc, k0, k1, k2, ht, rfl⟩, _, hsub, hturn, _⟩ := OwG.turn GrP.ok h hF c hc
  refine ⟨gr, cap, g, gc, rfl, ?_, ?_, ?_, ht, hgr, hsub g (by simp), fun e => hgi (by simp [e]), fun w' L' hw hT hl => ?_⟩
  · rw [← k0]; exact hcells 0 (by decide)
  · rw [← k1]; exact hcells 1 (by decide)
  · rw [← k2]; exact hcells 2 (by decide)
  · obtain ⟨F', o', n', m'⟩ := hturn w' (G[c].1, G[c].2.1, L') [g] hw ⟨g, gc, k0, k1, by rw [k2, hl], hT, rfl⟩ (by simp) (fun x hx => .inl hx)
    exact ⟨F', o', n', fun x hx => by rcases m' x hx with h | h; exact h; simp at h; subst h; exact hsub x (by simp)⟩
/-- The three cells of a grid, at their place in the row. -/
theorem grid_mid {w : World} {b o : Nat} {x y z : Value} (h0 : w.cell? ⟨b, o, none⟩ = some x) (h1 : w.cell? ⟨b, o + 1, none⟩ = some y) (h2 : w.cell? ⟨b, o + 2, none⟩ = some z) : ∀ j v, (#[x, y, z] : Array Value)[j]? = some v → w.cell? ⟨b, o + j, none⟩ = some v := by
  intro j v hv
  match j, hv with
  | 0, hv => simp at hv; subst hv; exact h0
  | 1, hv => simp at hv; subst hv; exact h1
  | 2, hv => simp at hv; subst hv; exact h2
  | j + 3, hv => simp at hv
theorem area_mid {w : World} {b o : Nat} {x y : Value} (h0 : w.cell? ⟨b, o, none⟩ = some x) (h1 : w.cell? ⟨b, o + 1, none⟩ = some y) : ∀ j v, (#[x, y] : Array Value)[j]? = some v → w.cell? ⟨b, o + j, none⟩ = some v := by
  intro j v hv
  match j, hv with
  | 0, hv => simp at hv; subst hv; exact h0
  | 1, hv => simp at hv; subst hv; exact h1
  | j + 2, hv => simp at hv


end Go.Proofs.Ytdhgfbdanijgaaa

namespace Go.Proofs.Ytdhgfbdanijgaaa
open Go.RowKit Go.Shelf

/-- One cell is read. -/
theorem load_one {P : Program} {ops : Array Oper} {rest : List Oper} {op : Oper} {a : Act} {w : World} {Q : Exit → Act → World → Prop} (hw : Region.wanted op (yielded ops a.tmps) = true) (ty : TypeId) (x : Operand) (ho : op.op = .load ty x)
    (b off : Nat) (hx : a.eval x = .pointer (some ⟨b, off, none⟩)) (v : Value) (hc : w.cell? ⟨b, off, none⟩ = some v) (d : TypeDesc) (hu : P.underlying ty = some d) (hd : d.isRow = false)
    (h : wpList P ops Q rest (a.put op.dst v) w) : wpList P ops Q (op :: rest) a w :=
  BigFrame.wpList_want hw fun K hK => by
    have hg : (isAgg ty).run P w = .ok false w := by
      unfold isAgg
      rw [Sem.run_bind, run_underlying hu w]
      cases d <;> simp_all
    unfold Oper.wp execOp
    simp only [ho, hx, Instr.loadAt, Instr.sureAddr, Sem.run_bind, Sem.run_pure, Result.andThen_ok]
    simp [loadVar, hg, go_sem, hc]
    exact hK _ _ h

/-- Coefficients while they are made of planes. -/
structure Ec (w wr : World) (X : Array Value) (gv cv : Value) (D : List (List (List Int))) (F : List Nat) : Prop where
  pl : wr.heap[w.heap.size]? = some (.cells (plV X gv) 56 (0, 0))
  r : wr.heap[w.heap.size + 1]? = some (.cells #[.slice none 0 0] 44 (0, 0))
  c : wr.heap[w.heap.size + 1 + 1]? = some (.cells #[cv] 44 (0, 0))
  own : Ow3 wr cv D F
  nd : F.Nodup
  lo : ∀ g ∈ F, w.heap.size + 3 ≤ g
  grown : w.grownBy wr none
theorem Ec.size {w wr : World} {X : Array Value} {gv cv : Value} {D : List (List (List Int))} {F : List Nat} (h : Ec w wr X gv cv D F) : w.heap.size + 3 ≤ wr.heap.size := (Array.getElem?_eq_some_iff.1 h.c).1
theorem Ec.new {w wr w' : World} {X : Array Value} {gv cv : Value} {D : List (List (List Int))} {F : List Nat} (h : Ec w wr X gv cv D F) (g : wr.grownBy w' none) : Ec w w' X gv cv D F :=
  ⟨grown_atT g h.pl (by simp), grown_atT g h.r (by simp), grown_atT g h.c (by simp), ok3.keep h.own g, h.nd, h.lo, grown_trans h.grown g⟩

def coefsG (G : List Gd) : List (List (List Int)) := G.map (fun x => x.2.2)
theorem coefsG_next (G : List Gd) (i : Nat) (h : i < G.length) : (coefsG G).take i ++ [(G.getD i (0, 0, [])).2.2] = (coefsG G).take (i + 1) := by
  have e : (G.getD i (0, 0, [])).2.2 = (coefsG G)[i]'(by simpa [coefsG] using h) := by simp [coefsG, h]
  rw [e]
  exact takeX_next _ i _

end Go.Proofs.Ytdhgfbdanijgaaa

namespace Go.Proofs.Ytdhgfbdanijgaaa
open Go.RowKit Go.Shelf

/-- The spots of an area, given to a loop whose body may return. -/
theorem spots_stops (Bn wd ht : Nat) (hwd : wd ≤ 4096) (hht : ht ≤ 4096) (O : Nat → Prop) (w : World) (hBn : w.heap[Bn]? = some (.cells #[.int .i64 (wd : Int), .int .i64 (ht : Int)] 73 (0, 0))) (hOB : ¬ O Bn) :
    Stops Try.prog 44 #[.pointer (some ⟨Bn, 0, none⟩)] (fun x : Nat × Nat => #[.int .i64 (x.1 : Int), .int .i64 (x.2 : Int)]) (sTo wd ht) O w := by
  intro n l J Jx W hW _ hl hOl hwl hJ hY h0
  have hlt : Bn < w.heap.size := (Array.getElem?_eq_some_iff.1 hBn).1
  have hBW : W.heap[Bn]? = some (.cells #[.int .i64 (wd : Int), .int .i64 (ht : Int)] 73 (0, 0)) := (hW.block Bn hlt hOB).trans hBn
  have hltW : Bn < W.heap.size := (Array.getElem?_eq_some_iff.1 hBW).1
  refine callsIn_wide.2 ((callsIn_wide (n := 1)).1 ?_)
  refine (spots1_in Fence.wide 1 trivial rfl (Nat.le_refl _) l Bn wd ht hwd hht (fun pre W1 => J pre W1 ∧ But (fun k => O k ∨ k = l) W W1) (fun _ W1 => Jx W1 ∧ But (fun k => O k ∨ k = l) W W1) ?_ W hBW ⟨h0, But.refl _ _⟩).mono ?_
  · rintro pre x W1 ⟨hj, hb⟩ hlen
    obtain ⟨fn, tmps, assign, body, hy, hR⟩ := hY pre x W1 (1 - 1) hj hb hlen
    refine ⟨fn, tmps, assign, body, hy, hR.mono ?_⟩
    rintro e W' ⟨(⟨rfl, hj'⟩ | ⟨rfl, hj'⟩), hb'⟩
    · exact .inl ⟨rfl, ⟨hj', hb.trans hb'⟩, hb'.block Bn (Nat.lt_of_lt_of_le hltW hb.size) (fun e => by rcases e with e | e; exact hOB e; omega)⟩
    · exact .inr ⟨rfl, hj', hb.trans hb'⟩
  · rintro e W' ⟨hv, (⟨ys, rfl, hj, hb⟩ | ⟨pre, _, hj, hb⟩)⟩
    · exact ⟨hv, .inl hj, hb⟩
    · exact ⟨hv, .inr hj, hb⟩

/-- The first blocks of P, behind them those of L. -/
def mixL (P L : List (List Int)) (k : Nat) : List (List Int) := P.take k ++ L.drop k
theorem mixL_len {P L : List (List Int)} (h : P.length = L.length) (k : Nat) : (mixL P L k).length = L.length := by
  unfold mixL
  rw [List.length_append, List.length_take, List.length_drop]
  omega
theorem mixL_zero (P L : List (List Int)) : mixL P L 0 = L := by simp [mixL]
theorem mixL_all {P L : List (List Int)} (h : P.length = L.length) : mixL P L L.length = P := by
  unfold mixL
  rw [← h, List.take_length, h, List.drop_length, List.append_nil]
theorem mixL_set {P L : List (List Int)} (h : P.length = L.length) (k : Nat) (hk : k < L.length) : (mixL P L k).set k (P.getD k []) = mixL P L (k + 1) := by
  have hp : k < P.length := by omega
  unfold mixL
  rw [List.set_append_right _ _ (by rw [List.length_take]; omega), List.length_take, Nat.min_eq_left (by omega), Nat.sub_self, List.drop_eq_getElem_cons hk, List.set_cons_zero, List.take_succ_eq_append_getElem hp, List.append_assoc]
  have e : P.getD k [] = P[k] := by simp [hp]
  rw [e]
  rfl

/-- A plane is ok. -/
theorem plane_all {bw bh nw nh : Nat} {P : List (List Int)} (h : P.length = bw * bh) (hb : ∀ k, k < P.length → blockB (hidB bw nw nh k) (P.getD k []) = true) : planeB bw bh nw nh P = true := by
  unfold planeB
  rw [Bool.and_eq_true]
  exact ⟨decide_eq_true h, List.all_eq_true.2 (fun k hk => hb k (by simpa using hk))⟩
theorem plane_bad {bw bh nw nh : Nat} {P : List (List Int)} (k : Nat) (hk : k < P.length) (hb : blockB (hidB bw nw nh k) (P.getD k []) = false) : planeB bw bh nw nh P = false := by
  cases h : planeB bw bh nw nh P with
  | false => rfl
  | true =>
    unfold planeB at h
    rw [Bool.and_eq_true] at h
    have := List.all_eq_true.1 h.2 k (by simpa using hk)
    rw [hb] at this
    exact this.symm
theorem plane_short {bw bh nw nh : Nat} {P : List (List Int)} (h : P.length ≠ bw * bh) : planeB bw bh nw nh P = false := by
  unfold planeB
  rw [decide_eq_false h, Bool.false_and]
theorem hid_spot {bw nw nh r c : Nat} (hc : c < bw) : hidB bw nw nh (r * bw + c) = (decide (nh ≤ r) || decide (nw ≤ c)) := by
  unfold hidB
  have h1 : (r * bw + c) / bw = r := by rw [Nat.mul_comm, Nat.mul_add_div (by omega), Nat.div_eq_of_lt hc]; omega
  have h2 : (r * bw + c) % bw = c := by rw [Nat.mul_comm, Nat.mul_add_mod, Nat.mod_eq_of_lt hc]
  rw [h1, h2]
theorem zero_same {xs : List Int} (h : xs.length = 64) : (xs == zs64) = zeroB xs := by
  rw [Bool.eq_iff_iff, beq_iff_eq]
  unfold zeroB
  rw [List.all_eq_true]
  constructor
  · rintro rfl x hx
    have := List.eq_of_mem_replicate hx
    simp [this]
  · intro hx
    unfold zs64
    rw [List.eq_replicate_iff]
    exact ⟨h, fun b hb => by simpa using hx b hb⟩

end Go.Proofs.Ytdhgfbdanijgaaa

namespace Go.Proofs.Ytdhgfbdanijgaaa
open Go.RowKit Go.Shelf

attribute [local go_sem] Oper.semAt_some

theorem load_rowR {F : Fence} {n : Nat} {P : Program} {ops : Array Oper} {rest : List Oper} {op : Oper} {a : Act} {w : World} {Q : Exit → Act → World → Prop} (hw : Region.wanted op (yielded ops a.tmps) = true) (ty : TypeId) (x : Operand) (ho : op.op = .load ty x)
    (b : Nat) (hx : a.eval x = .pointer (some ⟨b, 0, none⟩)) (X : Array Value) (t : TypeId) (hb : w.heap[b]? = some (.cells X t (0, 0))) (d : TypeDesc)
    (hu : P.underlying ty = some d) (hd : (match d with | .struct _ | .array _ _ => true | _ => false) = true) (hi : (P.info? ty).map (·.size) = some X.size)
    (h : wpListIn F n P ops Q rest (a.put op.dst (.agg X)) w) : wpListIn F n P ops Q (op :: rest) a w :=
  BigFrame.wpListIn_want hw fun K hK => by
    refine ⟨fun f hf => ?_, ?_⟩
    · simp [Oper.about, ho] at hf
    · rw [Oper.semAt_eq _ _ _ (by simp [ho]), exec_row ty x ho b hx X t hb d hu hd hi]
      exact hK _ _ h

/-- An operation whose guard is not met, inside of a round. -/
theorem skip_in {l n : Nat} {P : Program} {ops : Array Oper} {rest : List Oper} {op : Oper} {a : Act} {w : World} {Q : Exit → Act → World → Prop} (hw : Region.wanted op (yielded ops a.tmps) = false) (h : wpListIn (Fence.wide.inRound l) n P ops Q rest (a.put op.dst undef) w) : wpListIn (Fence.wide.inRound l) n P ops Q (op :: rest) a w :=
  wpListIn_step (fun K hK => by rw [hw]; exact ⟨fun _ _ => trivial, hK _ _ h⟩)

end Go.Proofs.Ytdhgfbdanijgaaa
