/-
  Planes of samples in the program: a sample's number, a row, one sample, another one in its place, new planes (written by gen_tone.py).
-/
import Derived.Test.YtkefpjbdkhifhaaToneArea
import Derived.Test.YtkefpjbdkhifhaaRowOps
import Derived.Test.YtkefpjbdkhifhaaHeldLast
namespace Go.Proofs.Ytkefpjbdkhifhaa
open Go.RowKit

theorem grown_atG {a b : World} {g : Nat} {o : Obj} {row : Option Nat} (h : a.grownBy b row) (hg : a.heap[g]? = some o) (hne : row ≠ some g) : b.heap[g]? = some o :=
  (h.block g (Array.getElem?_eq_some_iff.1 hg).1 (Ne.symm hne)).trans hg

theorem toneIndex (wd r c : Nat) (x y : Value) (hw : wd ≤ 4096) (hr : r ≤ 4096) (hc : c ≤ 4096) (k : Nat) (hk : Hid (r * wd + c = k)) (w : World) :
    Calls Try.prog 88 #[.agg #[.int .i64 (wd : Int), x, y], .int .i64 (r : Int), .int .i64 (c : Int)] w fun e w' => e = .returned (.int .i64 (k : Int)) ∧ w.grownBy w' none := by
  have h0 : r * wd ≤ 4096 * 4096 := Nat.mul_le_mul hr hw
  have h1 := i64_in ((r : Int) * (wd : Int)) (by rw [← Int.natCast_mul]; omega)
  have h2 := i64_in ((r : Int) * (wd : Int) + (c : Int)) (by rw [← Int.natCast_mul]; omega)
  have h3 : (r : Int) * (wd : Int) + (c : Int) = (k : Int) := by rw [← Int.natCast_mul, ← Int.natCast_add, unhide hk]
  go_enter Try.func88, Try.ntmps88
  go_wp2
  go_ret
  exact ⟨rfl, grown_alloc (World.grownBy.refl _ _) _⟩

set_option maxRecDepth 20000 in
set_option maxHeartbeats 1600000 in
theorem toneRow (wd ht g n r lo : Nat) (hw : 1 ≤ wd ∧ wd ≤ 1024) (hh : ht ≤ 1024) (hr : r < ht) (HN : Hid (wd * ht = n)) (HLO : Hid (r * wd = lo)) (W : World) :
    Calls Try.prog 74 #[.agg #[.int .i64 (wd : Int), .int .i64 (ht : Int), .slice (some ⟨g, 0, none⟩) n n], .int .i64 (r : Int)] W fun e W' => e = .returned (.slice (some ⟨g, lo, none⟩) wd (n - lo)) ∧ W.grownBy W' none := by
  have hx := row_end (w := wd) hr
  rw [unhide HLO, Nat.mul_comm ht wd, unhide HN] at hx
  have hnb : n ≤ 1048576 := by rw [← unhide HN]; exact Nat.mul_le_mul hw.2 hh
  obtain ⟨hi, HHI⟩ : ∃ hi : Nat, Hid ((r + 1) * wd + 0 = hi) := ⟨_, rfl⟩
  have hhi : hi = lo + wd := by rw [← unhide HHI, ← unhide HLO, Nat.add_mul, Nat.one_mul, Nat.add_zero]
  have HLO' : Hid (r * wd + 0 = lo) := by unfold Hid; rw [Nat.add_zero]; exact unhide HLO
  have e1 := i64_in ((r : Int) + 1) (by omega)
  have e2 : ((r : Int) + 1) = ((r + 1 : Nat) : Int) := by push_cast; rfl
  have s1 : (0 : Int) ≤ (lo : Int) := by omega
  have s2 : (lo : Int) ≤ (hi : Int) := by omega
  have s3 : (hi : Int) ≤ (n : Int) := by omega
  have s4 : ¬ n = lo := by omega
  have HHH := hide hhi
  have E2 := hide e2
  clear hx hhi e2
  obtain ⟨W0, hW0⟩ : ∃ W0, W.alloc (.cells #[.int .i64 (wd : Int), .int .i64 (ht : Int), .slice (some ⟨g, 0, none⟩) n n] 55) = W0 := ⟨_, rfl⟩
  have G0 : W.grownBy W0 none := by rw [← hW0]; exact World.grownBy_alloc _ _ _
  have b0 : W0.heap[W.heap.size]? = some (.cells #[.int .i64 (wd : Int), .int .i64 (ht : Int), .slice (some ⟨g, 0, none⟩) n n] 55 (0, 0)) := by rw [← hW0]; exact heap_alloc_new W _
  have HW := hide hW0
  have B0 := hide b0
  have HG0 := hide G0
  clear hW0 b0 G0
  go_enter Try.func74, Try.ntmps74
  go_wp2
  rw [unhide HW]
  clear HW
  refine wp_region_noPanic ?_
  refine wp_region_tail (fun W => W0.drew.grownBy W none) [true, true, true, true, false, true, true, true, false, false, false] (by kernel_rfl) (fun _ _ _ _ _ h => h) rfl (by kernel_rfl) (World.grownBy.refl _ _) ?_
  have BD : Hid (W0.drew.heap[W.heap.size]? = some (.cells #[.int .i64 (wd : Int), .int .i64 (ht : Int), .slice (some ⟨g, 0, none⟩) n n] 55 (0, 0))) := unhide B0
  have gD : W.grownBy W0.drew none := grown_drew (unhide HG0)
  generalize W0.drew = W1 at *
  clear B0 HG0 W0
  have C2 : Hid (W1.cell? ⟨W.heap.size, 2, none⟩ = some (.slice (some ⟨g, 0, none⟩) n n)) := by unfold Hid; rw [cell_of_row W1 _ 2 _ _ (0, 0) (unhide BD)]; rfl
  refine heldF_take (v := ?_) (Or.inl ⟨by rfl, ?_⟩) ?_
  rotate_left 1
  · intro w' hSw
    go_simp
    try with_reducible rfl
  try simp only [Act.put, List.setIfInBounds_toArray, List.set_cons_zero, List.set_cons_succ]
  refine heldF_take (v := ?_) (Or.inl ⟨by rfl, ?_⟩) ?_
  rotate_left 1
  · intro w' hSw
    have cc := hSw.cell (unhide C2) (by simp)
    go_simp
    try with_reducible rfl
  try simp only [Act.put, List.setIfInBounds_toArray, List.set_cons_zero, List.set_cons_succ]
  refine heldF_take (v := .agg #[.int .i64 (wd : Int), .int .i64 (ht : Int), .slice (some ⟨g, 0, none⟩) n n]) (Or.inl ⟨by rfl, ?_⟩) ?_
  · intro w' hSw
    exact exec_row 55 _ rfl W.heap.size rfl _ _ (grown_atG hSw (unhide BD) (by simp)) _ Try.underlying55 rfl (by kernel_rfl)
  try simp only [Act.put, List.setIfInBounds_toArray, List.set_cons_zero, List.set_cons_succ]
  refine heldF_take (v := ?_) (Or.inl ⟨by rfl, ?_⟩) ?_
  rotate_left 1
  · intro w' hSw
    go_simp
    try with_reducible rfl
  try simp only [Act.put, List.setIfInBounds_toArray, List.set_cons_zero, List.set_cons_succ]
  refine heldF_skip ?_
  refine heldF_take (v := .agg #[.int .i64 (wd : Int), .int .i64 (ht : Int), .slice (some ⟨g, 0, none⟩) n n]) (Or.inl ⟨by rfl, ?_⟩) ?_
  · intro w' hSw
    exact exec_row 55 _ rfl W.heap.size rfl _ _ (grown_atG hSw (unhide BD) (by simp)) _ Try.underlying55 rfl (by kernel_rfl)
  try simp only [Act.put, List.setIfInBounds_toArray, List.set_cons_zero, List.set_cons_succ]
  refine heldF_take (v := ?_) (Or.inl ⟨by rfl, ?_⟩) ?_
  rotate_left 1
  · intro w' hSw
    go_simp
    try with_reducible rfl
  try simp only [Act.put, List.setIfInBounds_toArray, List.set_cons_zero, List.set_cons_succ]
  refine heldF_take (v := ?_) (Or.inl ⟨by rfl, ?_⟩) ?_
  rotate_left 1
  · intro w' hSw
    go_simp
    try with_reducible rfl
  try simp only [Act.put, List.setIfInBounds_toArray, List.set_cons_zero, List.set_cons_succ]
  refine heldF_skip ?_
  refine heldF_skip ?_
  refine heldF_skip ?_
  refine heldF_nil ?_
  refine tailF_skip ?_
  refine tailF_skip ?_
  refine tailF_skip ?_
  refine tailF_skip ?_
  refine tailF_step (fun K hK => ?_)
  go_simp
  refine (toneIndex wd r 0 _ _ (by omega) (by omega) (by omega) lo HLO' W1).mono ?_
  rintro e w4 ⟨rfl, g4⟩
  refine hK.out _ _ g4 ?_
  clear hK K
  try simp only [Act.put, List.setIfInBounds_toArray, List.set_cons_zero, List.set_cons_succ]
  refine tailF_skip ?_
  refine tailF_skip ?_
  refine tailF_skip ?_
  refine tailF_step (fun K hK => ?_)
  go_simp
  rw [unhide E2]
  refine (toneIndex wd (r + 1) 0 _ _ (by omega) (by omega) (by omega) hi HHI w4).mono ?_
  rintro e w5 ⟨rfl, g5⟩
  refine hK.out _ _ (grown_trans g4 g5) ?_
  clear hK K
  try simp only [Act.put, List.setIfInBounds_toArray, List.set_cons_zero, List.set_cons_succ]
  refine tailF_step (fun K hK => ?_)
  go_simp
  refine hK.out _ _ (grown_trans g4 g5) ?_
  clear hK K
  try simp only [Act.put, List.setIfInBounds_toArray, List.set_cons_zero, List.set_cons_succ]
  refine tailF_step (fun K hK => ?_)
  go_simp
  refine hK.out _ _ (grown_trans g4 g5) ?_
  clear hK K
  try simp only [Act.put, List.setIfInBounds_toArray, List.set_cons_zero, List.set_cons_succ]
  refine tailF_nil (NoPanic.normal ?_)
  try simp only [Act.put]
  go_wp2
  go_ret
  refine ⟨?_, grown_trans gD (grown_trans g4 g5)⟩
  have := unhide HHH
  simp
  omega
set_option maxRecDepth 20000 in
set_option maxHeartbeats 1600000 in
theorem toneAt (wd ht g n r c k : Nat) (L : List Int) (hw : wd ≤ 1024) (hr : r ≤ 1024) (hc : c ≤ 1024) (HK : Hid (r * wd + c = k)) (hkl : k < n) (hL : L.length = n) (W : World) (hB : Blk .u16 73 W g L) :
    Calls Try.prog 79 #[.agg #[.int .i64 (wd : Int), .int .i64 (ht : Int), .slice (some ⟨g, 0, none⟩) n n], .int .i64 (r : Int), .int .i64 (c : Int)] W fun e W' => e = .returned (.int .u16 (L.getD k 0)) ∧ W.grownBy W' none := by
  have HB := hide hB
  have HL := hide hL
  have i0 : (0 : Int) ≤ (k : Int) := by omega
  have i1 : (k : Int) < (n : Int) := by omega
  clear hB hL
  obtain ⟨W0, hW0⟩ : ∃ W0, W.alloc (.cells #[.int .i64 (wd : Int), .int .i64 (ht : Int), .slice (some ⟨g, 0, none⟩) n n] 55) = W0 := ⟨_, rfl⟩
  have G0 : W.grownBy W0 none := by rw [← hW0]; exact World.grownBy_alloc _ _ _
  have b0 : W0.heap[W.heap.size]? = some (.cells #[.int .i64 (wd : Int), .int .i64 (ht : Int), .slice (some ⟨g, 0, none⟩) n n] 55 (0, 0)) := by rw [← hW0]; exact heap_alloc_new W _
  have HW := hide hW0
  have B0 := hide b0
  have HG0 := hide G0
  clear hW0 b0 G0
  go_enter Try.func79, Try.ntmps79
  go_wp2
  rw [unhide HW]
  clear HW
  refine wp_region_noPanic ?_
  refine wp_region_tail (fun W => W0.drew.grownBy W none) [true, true, true, true, true, false, false, false, false] (by kernel_rfl) (fun _ _ _ _ _ h => h) rfl (by kernel_rfl) (World.grownBy.refl _ _) ?_
  have BD : Hid (W0.drew.heap[W.heap.size]? = some (.cells #[.int .i64 (wd : Int), .int .i64 (ht : Int), .slice (some ⟨g, 0, none⟩) n n] 55 (0, 0))) := unhide B0
  have gD : W.grownBy W0.drew none := grown_drew (unhide HG0)
  generalize W0.drew = W1 at *
  clear B0 HG0 W0
  have C2 : Hid (W1.cell? ⟨W.heap.size, 2, none⟩ = some (.slice (some ⟨g, 0, none⟩) n n)) := by unfold Hid; rw [cell_of_row W1 _ 2 _ _ (0, 0) (unhide BD)]; rfl
  refine heldF_take (v := ?_) (Or.inl ⟨by rfl, ?_⟩) ?_
  rotate_left 1
  · intro w' hSw
    go_simp
    try with_reducible rfl
  try simp only [Act.put, List.setIfInBounds_toArray, List.set_cons_zero, List.set_cons_succ]
  refine heldF_take (v := ?_) (Or.inl ⟨by rfl, ?_⟩) ?_
  rotate_left 1
  · intro w' hSw
    have cc := hSw.cell (unhide C2) (by simp)
    go_simp
    try with_reducible rfl
  try simp only [Act.put, List.setIfInBounds_toArray, List.set_cons_zero, List.set_cons_succ]
  refine heldF_take (v := .agg #[.int .i64 (wd : Int), .int .i64 (ht : Int), .slice (some ⟨g, 0, none⟩) n n]) (Or.inl ⟨by rfl, ?_⟩) ?_
  · intro w' hSw
    exact exec_row 55 _ rfl W.heap.size rfl _ _ (grown_atG hSw (unhide BD) (by simp)) _ Try.underlying55 rfl (by kernel_rfl)
  try simp only [Act.put, List.setIfInBounds_toArray, List.set_cons_zero, List.set_cons_succ]
  refine heldF_take (v := ?_) (Or.inl ⟨by rfl, ?_⟩) ?_
  rotate_left 1
  · intro w' hSw
    go_simp
    try with_reducible rfl
  try simp only [Act.put, List.setIfInBounds_toArray, List.set_cons_zero, List.set_cons_succ]
  refine heldF_take (v := ?_) (Or.inl ⟨by rfl, ?_⟩) ?_
  rotate_left 1
  · intro w' hSw
    go_simp
    try with_reducible rfl
  try simp only [Act.put, List.setIfInBounds_toArray, List.set_cons_zero, List.set_cons_succ]
  refine heldF_skip ?_
  refine heldF_skip ?_
  refine heldF_skip ?_
  refine heldF_skip ?_
  refine heldF_nil ?_
  refine tailF_skip ?_
  refine tailF_skip ?_
  refine tailF_skip ?_
  refine tailF_skip ?_
  refine tailF_skip ?_
  refine tailF_step (fun K hK => ?_)
  go_simp
  refine (toneIndex wd r c _ _ (by omega) (by omega) (by omega) k HK W1).mono ?_
  rintro e w4 ⟨rfl, g4⟩
  have ck := ((unhide HB).grown (grown_trans gD g4)).cell k (by rw [unhide HL]; exact hkl)
  refine hK.out _ _ g4 ?_
  clear hK K
  try simp only [Act.put, List.setIfInBounds_toArray, List.set_cons_zero, List.set_cons_succ]
  refine tailF_step (fun K hK => ?_)
  go_simp
  refine hK.out _ _ g4 ?_
  clear hK K
  try simp only [Act.put, List.setIfInBounds_toArray, List.set_cons_zero, List.set_cons_succ]
  refine tailF_step (fun K hK => ?_)
  go_simp
  refine hK.out _ _ g4 ?_
  clear hK K
  try simp only [Act.put, List.setIfInBounds_toArray, List.set_cons_zero, List.set_cons_succ]
  refine tailF_step (fun K hK => ?_)
  go_simp
  refine hK.out _ _ g4 ?_
  clear hK K
  try simp only [Act.put, List.setIfInBounds_toArray, List.set_cons_zero, List.set_cons_succ]
  refine tailF_nil (NoPanic.normal ?_)
  try simp only [Act.put]
  go_wp2
  go_ret
  exact ⟨rfl, grown_trans gD g4⟩

set_option maxRecDepth 20000 in
set_option maxHeartbeats 1600000 in
theorem tonePut (wd ht g n r c k : Nat) (L : List Int) (z : Int) (hw : wd ≤ 1024) (hr : r ≤ 1024) (hc : c ≤ 1024) (HK : Hid (r * wd + c = k)) (hkl : k < n) (hL : L.length = n) (W : World) (hB : Blk .u16 73 W g L) :
    Calls Try.prog 78 #[.agg #[.int .i64 (wd : Int), .int .i64 (ht : Int), .slice (some ⟨g, 0, none⟩) n n], .int .i64 (r : Int), .int .i64 (c : Int), .int .u16 z] W fun e W' => (∃ v, e = .returned v) ∧ Blk .u16 73 W' g (L.set k z) ∧ W.grownBy W' (some g) := by
  have HB := hide hB
  have HL := hide hL
  have i0 : (0 : Int) ≤ (k : Int) := by omega
  have i1 : (k : Int) < (n : Int) := by omega
  clear hB hL
  obtain ⟨W0, hW0⟩ : ∃ W0, W.alloc (.cells #[.int .i64 (wd : Int), .int .i64 (ht : Int), .slice (some ⟨g, 0, none⟩) n n] 55) = W0 := ⟨_, rfl⟩
  have G0 : W.grownBy W0 none := by rw [← hW0]; exact World.grownBy_alloc _ _ _
  have b0 : W0.heap[W.heap.size]? = some (.cells #[.int .i64 (wd : Int), .int .i64 (ht : Int), .slice (some ⟨g, 0, none⟩) n n] 55 (0, 0)) := by rw [← hW0]; exact heap_alloc_new W _
  have HW := hide hW0
  have B0 := hide b0
  have HG0 := hide G0
  clear hW0 b0 G0
  go_enter Try.func78, Try.ntmps78
  go_wp2
  rw [unhide HW]
  clear HW
  refine wp_region_noPanic ?_
  refine wp_region_tailL 20 (fun W => W0.drew.grownBy W none) [true, true, true, true, true, false, true, false, false] (by kernel_rfl) (fun _ _ _ _ _ h => h) rfl (by decide) (by kernel_rfl) (World.grownBy.refl _ _) ?_
  have BD : Hid (W0.drew.heap[W.heap.size]? = some (.cells #[.int .i64 (wd : Int), .int .i64 (ht : Int), .slice (some ⟨g, 0, none⟩) n n] 55 (0, 0))) := unhide B0
  have gD : W.grownBy W0.drew none := grown_drew (unhide HG0)
  generalize W0.drew = W1 at *
  clear B0 HG0 W0
  have C2 : Hid (W1.cell? ⟨W.heap.size, 2, none⟩ = some (.slice (some ⟨g, 0, none⟩) n n)) := by unfold Hid; rw [cell_of_row W1 _ 2 _ _ (0, 0) (unhide BD)]; rfl
  refine heldF_take (v := ?_) (Or.inl ⟨by rfl, ?_⟩) ?_
  rotate_left 1
  · intro w' hSw
    go_simp
    try with_reducible rfl
  try simp only [Act.put, List.setIfInBounds_toArray, List.set_cons_zero, List.set_cons_succ]
  refine heldF_take (v := ?_) (Or.inl ⟨by rfl, ?_⟩) ?_
  rotate_left 1
  · intro w' hSw
    have cc := hSw.cell (unhide C2) (by simp)
    go_simp
    try with_reducible rfl
  try simp only [Act.put, List.setIfInBounds_toArray, List.set_cons_zero, List.set_cons_succ]
  refine heldF_take (v := .agg #[.int .i64 (wd : Int), .int .i64 (ht : Int), .slice (some ⟨g, 0, none⟩) n n]) (Or.inl ⟨by rfl, ?_⟩) ?_
  · intro w' hSw
    exact exec_row 55 _ rfl W.heap.size rfl _ _ (grown_atG hSw (unhide BD) (by simp)) _ Try.underlying55 rfl (by kernel_rfl)
  try simp only [Act.put, List.setIfInBounds_toArray, List.set_cons_zero, List.set_cons_succ]
  refine heldF_take (v := ?_) (Or.inl ⟨by rfl, ?_⟩) ?_
  rotate_left 1
  · intro w' hSw
    go_simp
    try with_reducible rfl
  try simp only [Act.put, List.setIfInBounds_toArray, List.set_cons_zero, List.set_cons_succ]
  refine heldF_take (v := ?_) (Or.inl ⟨by rfl, ?_⟩) ?_
  rotate_left 1
  · intro w' hSw
    go_simp
    try with_reducible rfl
  try simp only [Act.put, List.setIfInBounds_toArray, List.set_cons_zero, List.set_cons_succ]
  refine heldF_skip ?_
  refine heldF_take (v := ?_) (Or.inl ⟨by rfl, ?_⟩) ?_
  rotate_left 1
  · intro w' hSw
    go_simp
    try with_reducible rfl
  try simp only [Act.put, List.setIfInBounds_toArray, List.set_cons_zero, List.set_cons_succ]
  refine heldF_skip ?_
  refine heldF_skip ?_
  refine heldF_nil ?_
  refine tailL_skip ?_
  refine tailL_skip ?_
  refine tailL_skip ?_
  refine tailL_skip ?_
  refine tailL_skip ?_
  refine tailL_step (fun K hK => ?_)
  go_simp
  refine (toneIndex wd r c _ _ (by omega) (by omega) (by omega) k HK W1).mono ?_
  rintro e w4 ⟨rfl, g4⟩
  have b4 := (unhide HB).grown (grown_trans gD g4)
  have ck := b4.cell k (by rw [unhide HL]; exact hkl)
  have fk := b4.frozen k
  have B4 := hide b4
  clear b4
  refine hK.out _ _ (.inr g4) ?_
  clear hK K
  try simp only [Act.put, List.setIfInBounds_toArray, List.set_cons_zero, List.set_cons_succ]
  refine tailL_skip ?_
  refine tailL_step (fun K hK => ?_)
  go_simp
  refine hK.out _ _ (.inr g4) ?_
  clear hK K
  try simp only [Act.put, List.setIfInBounds_toArray, List.set_cons_zero, List.set_cons_succ]
  refine tailL_step (fun K hK => ?_)
  go_simp
  refine hK.out _ _ (.inl rfl) ?_
  clear hK K
  refine tailL_nil (NoPanic.normal ?_)
  try simp only [Act.put]
  have b5 := hide ((unhide B4).set k z)
  have g5 := hide (grown_set w4 g k (.int .u16 z))
  generalize w4.setCell ⟨g, k, none⟩ (.int .u16 z) = w5 at *
  go_wp2
  go_end0
  exact ⟨⟨_, rfl⟩, unhide b5, grown_trans (grown_any (grown_trans gD g4)) (unhide g5)⟩

set_option maxRecDepth 20000 in
set_option maxHeartbeats 1600000 in
theorem newToneGrid (wd ht n : Nat) (hw : wd ≤ 1024) (hh : ht ≤ 1024) (HN : Hid (wd * ht = n)) (W : World) :
    Calls Try.prog 85 #[.agg #[.int .i64 (wd : Int), .int .i64 (ht : Int)]] W fun e W' => ∃ g, e = .returned (.agg #[.int .i64 (wd : Int), .int .i64 (ht : Int), .slice (some ⟨g, 0, none⟩) n n]) ∧ Blk .u16 73 W' g (List.replicate n 0) ∧ W.heap.size ≤ g ∧ W.grownBy W' none := by
  have hn1 : n ≤ 1048576 := by rw [← unhide HN]; exact Nat.mul_le_mul hw hh
  have hni : (wd : Int) * (ht : Int) = (n : Int) := by rw [← Int.natCast_mul, unhide HN]
  obtain ⟨i0, hi, hz0, hz1, hz2⟩ := info_parts (show (Try.prog.info? 73).map (fun i => (i.zero, i.size, i.bytes)) = some (some (.int .u16 0), 1, 2) by kernel_rfl)
  have HI := hide hi
  have HZ0 := hide hz0
  have HZ1 := hide hz1
  have HZ2 := hide hz2
  have HNI := hide hni
  clear hi hz0 hz1 hz2 hni
  obtain ⟨W0, hW0⟩ : ∃ W0, (W.alloc (.cells #[.int .i64 (wd : Int), .int .i64 (ht : Int)] 48)).alloc (.cells #[.int .i64 0, .int .i64 0, .slice none 0 0] 55) = W0 := ⟨_, rfl⟩
  have G0 : W.grownBy W0 none := by rw [← hW0]; exact grown_alloc (World.grownBy_alloc _ _ _) _
  have b0 : W0.heap[W.heap.size]? = some (.cells #[.int .i64 (wd : Int), .int .i64 (ht : Int)] 48 (0, 0)) := by rw [← hW0, Below.heap_alloc _ _ _ (by simp)]; exact heap_alloc_new W _
  have b1 : W0.heap[W.heap.size + 1]? = some (.cells #[.int .i64 0, .int .i64 0, .slice none 0 0] 55 (0, 0)) := by
    rw [← hW0]
    have := heap_alloc_new (W.alloc (.cells #[.int .i64 (wd : Int), .int .i64 (ht : Int)] 48)) (.cells #[.int .i64 0, .int .i64 0, .slice none 0 0] 55)
    simpa using this
  have s0 : W0.heap.size = W.heap.size + 2 := by rw [← hW0]; simp
  have HW := hide hW0
  have B0 := hide b0
  have B1 := hide b1
  have HG0 := hide G0
  have HS0 := hide s0
  clear hW0 b0 b1 G0 s0
  go_enter Try.func85, Try.ntmps85
  go_wp2
  rw [unhide HW]
  clear HW
  refine wp_region_noPanic ?_
  refine wp_region_tailL 20 (fun W => W0.drew.grownBy W none) [true, true, false, false, false, false] (by kernel_rfl) (fun _ _ _ _ _ h => h) rfl (by decide) (by kernel_rfl) (World.grownBy.refl _ _) ?_
  have BD : Hid (W0.drew.heap[W.heap.size]? = some (.cells #[.int .i64 (wd : Int), .int .i64 (ht : Int)] 48 (0, 0))) := unhide B0
  have BE : Hid (W0.drew.heap[W.heap.size + 1]? = some (.cells #[.int .i64 0, .int .i64 0, .slice none 0 0] 55 (0, 0))) := unhide B1
  have gD : W.grownBy W0.drew none := grown_drew (unhide HG0)
  have HSD : Hid (W0.drew.heap.size = W.heap.size + 2) := unhide HS0
  generalize W0.drew = W1 at *
  clear B0 B1 HG0 HS0 W0
  refine heldF_take (v := .agg #[.int .i64 (wd : Int), .int .i64 (ht : Int)]) (Or.inl ⟨by rfl, ?_⟩) ?_
  · intro w' hSw
    exact exec_row 48 _ rfl W.heap.size rfl _ _ (grown_atG hSw (unhide BD) (by simp)) _ Try.underlying48 rfl (by kernel_rfl)
  try simp only [Act.put, List.setIfInBounds_toArray, List.set_cons_zero, List.set_cons_succ]
  refine heldF_take (v := .agg #[.int .i64 (wd : Int), .int .i64 (ht : Int)]) (Or.inl ⟨by rfl, ?_⟩) ?_
  · intro w' hSw
    exact exec_row 48 _ rfl W.heap.size rfl _ _ (grown_atG hSw (unhide BD) (by simp)) _ Try.underlying48 rfl (by kernel_rfl)
  try simp only [Act.put, List.setIfInBounds_toArray, List.set_cons_zero, List.set_cons_succ]
  refine heldF_skip ?_
  refine heldF_skip ?_
  refine heldF_skip ?_
  refine heldF_skip ?_
  refine heldF_nil ?_
  refine tailL_skip ?_
  refine tailL_skip ?_
  refine tailL_step (fun K hK => ?_)
  go_simp
  refine (areaCount (wd : Int) (ht : Int) (by omega) (by omega) W1).mono ?_
  rintro e w4 ⟨rfl, g4⟩
  rw [unhide HNI]
  refine hK.out _ _ (.inr g4) ?_
  clear hK K
  try simp only [Act.put, List.setIfInBounds_toArray, List.set_cons_zero, List.set_cons_succ]
  refine tailL_step (fun K hK => ?_)
  rw [if_pos (by rfl)]
  obtain ⟨w5, hrun, r1, r2⟩ := run_make_full (P := Try.prog) w4 W.heap.size 53 73 i0 (.int .u16 0) 1 Try.underlying53 (unhide HI) (unhide HZ0) (unhide HZ1) .i64 .i64 n (by rw [unhide HZ2]; omega) (by unfold maxLen; omega) (by have := g4.size; have := unhide HSD; omega)
  have T5 := hide (Blk.made r1)
  have g5 := grown_trans g4 r2
  have b5 := grown_atG g5 (unhide BE) (by simp)
  clear r1
  unfold Oper.wp
  simp only [execOp, Act.eval, Result.andThen, Sem.run_bind]
  go_simp
  refine hK.out _ _ (.inr g5) ?_
  clear hK K
  try simp only [Act.put, List.setIfInBounds_toArray, List.set_cons_zero, List.set_cons_succ]
  refine tailL_step (fun K hK => ?_)
  go_simp
  refine hK.out _ _ (.inr g5) ?_
  clear hK K
  try simp only [Act.put, List.setIfInBounds_toArray, List.set_cons_zero, List.set_cons_succ]
  refine tailL_step (fun K hK => ?_)
  refine step_store_row (by rfl) 55 _ _ rfl (W.heap.size + 1) rfl #[.int .i64 (wd : Int), .int .i64 (ht : Int), .slice (some ⟨w4.heap.size, 0, none⟩) n n] rfl _ 55 b5 rfl (by kernel_rfl) (by simp [Value.oneCell']) ?_
  intro w6 hB6 g6
  refine hK.out _ _ (.inl rfl) ?_
  clear hK K
  refine tailL_nil (NoPanic.normal ?_)
  try simp only [Act.put]
  have s4 := g4.size
  have sD := unhide HSD
  have t6 := (unhide T5).beside g6 (by simp; omega)
  clear sD
  go_wp2
  refine bodyPost_ret (v := .agg #[.int .i64 (wd : Int), .int .i64 (ht : Int), .slice (some ⟨w4.heap.size, 0, none⟩) n n]) ?_ rfl ⟨w4.heap.size, rfl, t6, by have := unhide HSD; omega, ?_⟩
  · rw [results_c1 rfl]
    exact run_loadVar_row w6 _ 55 55 _ (0, 0) _ hB6 Try.underlying55 rfl (by kernel_rfl)
  · exact grown_new (grown_trans gD g5) g6 (fun g e => by have := unhide HSD; simp at e; omega)

set_option maxRecDepth 20000 in
set_option maxHeartbeats 1600000 in
theorem newTones (wd ht n : Nat) (hw : wd ≤ 1024) (hh : ht ≤ 1024) (HN : Hid (wd * ht = n)) (W : World) :
    Calls Try.prog 62 #[.agg #[.int .i64 (wd : Int), .int .i64 (ht : Int)]] W fun e W' => ∃ g, e = .returned (.agg #[.int .i64 (wd : Int), .int .i64 (ht : Int), .slice (some ⟨g, 0, none⟩) n n]) ∧ Blk .u16 73 W' g (List.replicate n 0) ∧ W.heap.size ≤ g ∧ W.grownBy W' none := by
  obtain ⟨W0, hW0⟩ : ∃ W0, (W.alloc (.cells #[.int .i64 (wd : Int), .int .i64 (ht : Int)] 48)).alloc (.cells #[.int .i64 0, .int .i64 0, .slice none 0 0] 57) = W0 := ⟨_, rfl⟩
  have HG0 : Hid (W.grownBy W0 none) := by rw [← hW0]; exact grown_alloc (World.grownBy_alloc _ _ _) _
  have B1 : Hid (W0.heap[W.heap.size + 1]? = some (.cells #[.int .i64 0, .int .i64 0, .slice none 0 0] 57 (0, 0))) := by
    rw [← hW0]
    have := heap_alloc_new (W.alloc (.cells #[.int .i64 (wd : Int), .int .i64 (ht : Int)] 48)) (.cells #[.int .i64 0, .int .i64 0, .slice none 0 0] 57)
    unfold Hid
    simpa using this
  have HS0 : Hid (W0.heap.size = W.heap.size + 2) := by rw [← hW0]; simp [Hid]
  have HW := hide hW0
  clear hW0
  go_enter Try.func62, Try.ntmps62
  go_wp2_with fail
  rw [unhide HW]
  refine (newToneGrid wd ht n hw hh HN W0).mono ?_
  rintro e w1 ⟨g, rfl, hb, hge, g1⟩
  have HB := hide hb
  have HBX := hide (grown_atG g1 (unhide B1) (by simp))
  have G1 := hide g1
  clear hb g1 HW B1
  go_wp2_with ((refine store_row rfl 57 _ _ rfl (W.heap.size + 1) rfl #[.int .i64 (wd : Int), .int .i64 (ht : Int), .slice (some ⟨g, 0, none⟩) n n] rfl _ 57 (unhide HBX) rfl (by kernel_rfl) (by simp [Value.oneCell']) ?_; intro w2 hB2 g2))
  refine bodyPost_ret (v := .agg #[.int .i64 (wd : Int), .int .i64 (ht : Int), .slice (some ⟨g, 0, none⟩) n n]) ?_ rfl ⟨g, rfl, (unhide HB).beside g2 (by have := unhide HS0; simp; omega), by have := unhide HS0; omega, ?_⟩
  · rw [results_c1 rfl]
    exact run_loadVar_row w2 _ 57 57 _ (0, 0) _ hB2 Try.underlying57 rfl (by kernel_rfl)
  · exact grown_new (grown_trans (unhide HG0) (unhide G1)) g2 (fun g e => by simp at e; omega)

end Go.Proofs.Ytkefpjbdkhifhaa
