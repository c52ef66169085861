/-
  Lists as squares in the program, blocks and tables that are ok.
-/
import Derived.Test.YtoeehfjbnbbijabTabImpl
import Derived.Deep.RegionHeld3
import Derived.Shelf.Abstract
namespace Go.Proofs.Ytoeehfjbnbbijab
open Go.RowKit Go.Shelf

theorem z64_one : (#[.int .i64 0, .int .i64 0, .int .i64 0, .int .i64 0, .int .i64 0, .int .i64 0, .int .i64 0, .int .i64 0, .int .i64 0, .int .i64 0, .int .i64 0, .int .i64 0, .int .i64 0, .int .i64 0, .int .i64 0, .int .i64 0, .int .i64 0, .int .i64 0, .int .i64 0, .int .i64 0, .int .i64 0, .int .i64 0, .int .i64 0, .int .i64 0, .int .i64 0, .int .i64 0, .int .i64 0, .int .i64 0, .int .i64 0, .int .i64 0, .int .i64 0, .int .i64 0, .int .i64 0, .int .i64 0, .int .i64 0, .int .i64 0, .int .i64 0, .int .i64 0, .int .i64 0, .int .i64 0, .int .i64 0, .int .i64 0, .int .i64 0, .int .i64 0, .int .i64 0, .int .i64 0, .int .i64 0, .int .i64 0, .int .i64 0, .int .i64 0, .int .i64 0, .int .i64 0, .int .i64 0, .int .i64 0, .int .i64 0, .int .i64 0, .int .i64 0, .int .i64 0, .int .i64 0, .int .i64 0, .int .i64 0, .int .i64 0, .int .i64 0, .int .i64 0] : Array Value).all (·.oneCell') = true := by rw [← sq_z64]; exact sq_one _

set_option maxRecDepth 20000 in
set_option maxHeartbeats 800000 in
/-- A list that is no square. -/
theorem fixSquare_no (ao : Option Addr) (n cap : Nat) (g : Value) (w : World) (h : n ≠ 64) :
    Calls Try.prog 39 #[.slice ao n cap, g] w fun e w' => e = .returned (.tuple #[.agg (sq zs64), .bool false]) ∧ w.grownBy w' none := by
  have hne : ((n : Int) != 64) = true := by simp; omega
  clear h
  go_enter Try.func39, Try.ntmps39
  go_wp2_with (refine store_row rfl 39 _ _ rfl w.heap.size rfl #[.int .i64 0, .int .i64 0, .int .i64 0, .int .i64 0, .int .i64 0, .int .i64 0, .int .i64 0, .int .i64 0, .int .i64 0, .int .i64 0, .int .i64 0, .int .i64 0, .int .i64 0, .int .i64 0, .int .i64 0, .int .i64 0, .int .i64 0, .int .i64 0, .int .i64 0, .int .i64 0, .int .i64 0, .int .i64 0, .int .i64 0, .int .i64 0, .int .i64 0, .int .i64 0, .int .i64 0, .int .i64 0, .int .i64 0, .int .i64 0, .int .i64 0, .int .i64 0, .int .i64 0, .int .i64 0, .int .i64 0, .int .i64 0, .int .i64 0, .int .i64 0, .int .i64 0, .int .i64 0, .int .i64 0, .int .i64 0, .int .i64 0, .int .i64 0, .int .i64 0, .int .i64 0, .int .i64 0, .int .i64 0, .int .i64 0, .int .i64 0, .int .i64 0, .int .i64 0, .int .i64 0, .int .i64 0, .int .i64 0, .int .i64 0, .int .i64 0, .int .i64 0, .int .i64 0, .int .i64 0, .int .i64 0, .int .i64 0, .int .i64 0, .int .i64 0] rfl #[.int .i64 0, .int .i64 0, .int .i64 0, .int .i64 0, .int .i64 0, .int .i64 0, .int .i64 0, .int .i64 0, .int .i64 0, .int .i64 0, .int .i64 0, .int .i64 0, .int .i64 0, .int .i64 0, .int .i64 0, .int .i64 0, .int .i64 0, .int .i64 0, .int .i64 0, .int .i64 0, .int .i64 0, .int .i64 0, .int .i64 0, .int .i64 0, .int .i64 0, .int .i64 0, .int .i64 0, .int .i64 0, .int .i64 0, .int .i64 0, .int .i64 0, .int .i64 0, .int .i64 0, .int .i64 0, .int .i64 0, .int .i64 0, .int .i64 0, .int .i64 0, .int .i64 0, .int .i64 0, .int .i64 0, .int .i64 0, .int .i64 0, .int .i64 0, .int .i64 0, .int .i64 0, .int .i64 0, .int .i64 0, .int .i64 0, .int .i64 0, .int .i64 0, .int .i64 0, .int .i64 0, .int .i64 0, .int .i64 0, .int .i64 0, .int .i64 0, .int .i64 0, .int .i64 0, .int .i64 0, .int .i64 0, .int .i64 0, .int .i64 0, .int .i64 0] 39 (heap_alloc_new _ _) rfl (by kernel_rfl) z64_one ?_; intro w3 hB3 g3)
  rw [← sq_z64] at hB3
  refine bodyPost_ret (v := .tuple #[.agg (sq zs64), .bool false]) ?_ rfl ⟨rfl, ?_⟩
  · exact results_c2 (p := 4) (q := 5) (ty := 39) rfl _ _ _ w.heap.size rfl _ (run_loadVar_row w3 _ 39 39 _ (0, 0) _ hB3 Try.underlying39 rfl (by rw [sq_size, zs64_len]; kernel_rfl))
  · exact grown_new (World.grownBy_alloc _ _ _) g3 (fun g e => by simp at e; omega)

set_option maxRecDepth 20000 in
set_option maxHeartbeats 800000 in
/-- A list as a square, and whether f leaves each of its numbers. -/
theorem fixSquare_yes (b off cap : Nat) (zs : List Int) (w : World) (hr : Rd .i64 w (some ⟨b, off, none⟩) 64 zs) (f : Nat → Int) (g : Nat) (lb : Array Value) (eg : ∀ args w, (callFunc g args).run Try.prog w = .ok (.enter g args) w)
    (HC : Hid (∀ k, k < 64 → ∀ W, w.grownBy W none → Calls Try.prog g (#[.int .i64 (zs.getD k 0)] ++ lb) W fun e W' => e = .returned (.int .i64 (f k)) ∧ W.grownBy W' none)) :
    Calls Try.prog 39 #[.slice (some ⟨b, off, none⟩) 64 cap, .func (.func g) #[] lb] w fun e w' => e = .returned (.tuple #[.agg (sq zs), .bool (zs == made f)]) ∧ w.grownBy w' none := by
  have hz : zs.length = 64 := hr.1
  have HR := hide hr
  clear hr
  have HZ := hide hz
  clear hz
  have har : ∀ w, (Instr.arrayAt 39 (.slice (some ⟨b, off, none⟩) 64 cap)).run Try.prog w = .ok (.pointer (some ⟨b, off, none⟩)) w := fun w => by kernel_rfl
  have HSL : Hid ((sq zs).size = 64) := by unfold Hid; rw [sq_size, unhide HZ]
  have HLD : ∀ (w : World) (g : Nat), w.heap[g]? = some (.cells (sq zs) 39 (0, 0)) → (loadVar 39 ⟨g, 0, none⟩).run Try.prog w = .ok (.agg (sq zs)) w := fun w g h => run_loadVar_row w g 39 39 _ (0, 0) _ h Try.underlying39 rfl (by rw [unhide HSL]; kernel_rfl)
  have HLD' := hide HLD
  clear HLD
  obtain ⟨W0, hW0⟩ : ∃ W0, (w.alloc (.cells #[.int .i64 0, .int .i64 0, .int .i64 0, .int .i64 0, .int .i64 0, .int .i64 0, .int .i64 0, .int .i64 0, .int .i64 0, .int .i64 0, .int .i64 0, .int .i64 0, .int .i64 0, .int .i64 0, .int .i64 0, .int .i64 0, .int .i64 0, .int .i64 0, .int .i64 0, .int .i64 0, .int .i64 0, .int .i64 0, .int .i64 0, .int .i64 0, .int .i64 0, .int .i64 0, .int .i64 0, .int .i64 0, .int .i64 0, .int .i64 0, .int .i64 0, .int .i64 0, .int .i64 0, .int .i64 0, .int .i64 0, .int .i64 0, .int .i64 0, .int .i64 0, .int .i64 0, .int .i64 0, .int .i64 0, .int .i64 0, .int .i64 0, .int .i64 0, .int .i64 0, .int .i64 0, .int .i64 0, .int .i64 0, .int .i64 0, .int .i64 0, .int .i64 0, .int .i64 0, .int .i64 0, .int .i64 0, .int .i64 0, .int .i64 0, .int .i64 0, .int .i64 0, .int .i64 0, .int .i64 0, .int .i64 0, .int .i64 0, .int .i64 0, .int .i64 0] 39)).alloc (.cells #[.int .i64 0, .int .i64 0, .int .i64 0, .int .i64 0, .int .i64 0, .int .i64 0, .int .i64 0, .int .i64 0, .int .i64 0, .int .i64 0, .int .i64 0, .int .i64 0, .int .i64 0, .int .i64 0, .int .i64 0, .int .i64 0, .int .i64 0, .int .i64 0, .int .i64 0, .int .i64 0, .int .i64 0, .int .i64 0, .int .i64 0, .int .i64 0, .int .i64 0, .int .i64 0, .int .i64 0, .int .i64 0, .int .i64 0, .int .i64 0, .int .i64 0, .int .i64 0, .int .i64 0, .int .i64 0, .int .i64 0, .int .i64 0, .int .i64 0, .int .i64 0, .int .i64 0, .int .i64 0, .int .i64 0, .int .i64 0, .int .i64 0, .int .i64 0, .int .i64 0, .int .i64 0, .int .i64 0, .int .i64 0, .int .i64 0, .int .i64 0, .int .i64 0, .int .i64 0, .int .i64 0, .int .i64 0, .int .i64 0, .int .i64 0, .int .i64 0, .int .i64 0, .int .i64 0, .int .i64 0, .int .i64 0, .int .i64 0, .int .i64 0, .int .i64 0] 39) = W0 := ⟨_, rfl⟩
  have G0 : w.grownBy W0 none := by rw [← hW0]; exact grown_alloc (World.grownBy_alloc _ _ _) _
  have b0 : W0.heap[w.heap.size]? = some (.cells (sq zs64) 39 (0, 0)) := by rw [← hW0, sq_z64, Below.heap_alloc _ _ _ (by simp)]; exact heap_alloc_new w _
  have b1 : W0.heap[w.heap.size + 1]? = some (.cells (sq zs64) 39 (0, 0)) := by
    rw [← hW0, sq_z64]
    have := heap_alloc_new (w.alloc (.cells #[.int .i64 0, .int .i64 0, .int .i64 0, .int .i64 0, .int .i64 0, .int .i64 0, .int .i64 0, .int .i64 0, .int .i64 0, .int .i64 0, .int .i64 0, .int .i64 0, .int .i64 0, .int .i64 0, .int .i64 0, .int .i64 0, .int .i64 0, .int .i64 0, .int .i64 0, .int .i64 0, .int .i64 0, .int .i64 0, .int .i64 0, .int .i64 0, .int .i64 0, .int .i64 0, .int .i64 0, .int .i64 0, .int .i64 0, .int .i64 0, .int .i64 0, .int .i64 0, .int .i64 0, .int .i64 0, .int .i64 0, .int .i64 0, .int .i64 0, .int .i64 0, .int .i64 0, .int .i64 0, .int .i64 0, .int .i64 0, .int .i64 0, .int .i64 0, .int .i64 0, .int .i64 0, .int .i64 0, .int .i64 0, .int .i64 0, .int .i64 0, .int .i64 0, .int .i64 0, .int .i64 0, .int .i64 0, .int .i64 0, .int .i64 0, .int .i64 0, .int .i64 0, .int .i64 0, .int .i64 0, .int .i64 0, .int .i64 0, .int .i64 0, .int .i64 0] 39)) (.cells #[.int .i64 0, .int .i64 0, .int .i64 0, .int .i64 0, .int .i64 0, .int .i64 0, .int .i64 0, .int .i64 0, .int .i64 0, .int .i64 0, .int .i64 0, .int .i64 0, .int .i64 0, .int .i64 0, .int .i64 0, .int .i64 0, .int .i64 0, .int .i64 0, .int .i64 0, .int .i64 0, .int .i64 0, .int .i64 0, .int .i64 0, .int .i64 0, .int .i64 0, .int .i64 0, .int .i64 0, .int .i64 0, .int .i64 0, .int .i64 0, .int .i64 0, .int .i64 0, .int .i64 0, .int .i64 0, .int .i64 0, .int .i64 0, .int .i64 0, .int .i64 0, .int .i64 0, .int .i64 0, .int .i64 0, .int .i64 0, .int .i64 0, .int .i64 0, .int .i64 0, .int .i64 0, .int .i64 0, .int .i64 0, .int .i64 0, .int .i64 0, .int .i64 0, .int .i64 0, .int .i64 0, .int .i64 0, .int .i64 0, .int .i64 0, .int .i64 0, .int .i64 0, .int .i64 0, .int .i64 0, .int .i64 0, .int .i64 0, .int .i64 0, .int .i64 0] 39)
    simpa using this
  have s0 : W0.heap.size = w.heap.size + 2 := by rw [← hW0]; simp
  have HW := hide hW0
  have B0 := hide b0
  have B1 := hide b1
  have HG0 := hide G0
  clear hW0 b0 b1 G0
  go_enter Try.func39, Try.ntmps39
  go_wp2_with (first | (refine load_mid rfl 39 _ rfl b off rfl (sq zs) (sq_rd ((unhide HR).grown (World.grownBy_alloc _ _ _))) _ Try.underlying39 rfl (by rw [unhide HSL]; kernel_rfl) ?_) | (rw [unhide HW]; clear HW; refine store_row rfl 39 _ _ rfl (w.heap.size + 1) rfl (sq zs) rfl (sq zs64) 39 (unhide B1) (by rw [unhide HSL, sq_size, zs64_len]) (by rw [unhide HSL]; kernel_rfl) (sq_one zs) ?_; intro w3 hB3 g3))
  have hG3 : w.grownBy w3 none := grown_new (unhide HG0) g3 (fun g e => by simp at e; omega)
  have hR3 := (g3.block w.heap.size (by omega) (by simp)).trans (unhide B0)
  have s3 := g3.size
  have HSQ := hide (eqSq (zs := zs) (ys := made f) (unhide HZ) (made_len f))
  refine wp_region_noPanic ?_
  refine wp_region_raw (fun w' => w'.heap[w.heap.size + 1]? = some (.cells (sq zs) 39 (0, 0))) [true, true, true, true, false, false, false, false] (by kernel_rfl) (fun _ _ _ _ _ h => h) rfl (by kernel_rfl) hB3 ?_
  iterate 3
    refine heldF_take (v := .agg (sq zs)) (Or.inl ⟨by rfl, ?_⟩) ?_
    · intro w' hSw
      exact exec_row 39 _ rfl (w.heap.size + 1) rfl (sq zs) 39 hSw _ Try.underlying39 rfl (by rw [unhide HSL]; kernel_rfl)
    simp only [Act.put, List.setIfInBounds_toArray, List.set_cons_zero, List.set_cons_succ]
  refine heldF_take (v := ?_) (Or.inl ⟨by rfl, ?_⟩) ?_
  rotate_left 1
  · intro w' hSw
    go_simp
    try with_reducible rfl
  simp only [Act.put, List.setIfInBounds_toArray, List.set_cons_zero, List.set_cons_succ]
  refine heldF_skip (heldF_skip (heldF_skip (heldF_skip (heldF_nil ?_))))
  refine anyH_step1 (i := 4) rfl (by kernel_rfl) (fun K hK => ?_)
  go_simp
  refine (each zs (unhide HZ) f g lb eg _ (fun k hk W hW => unhide HC k hk W (grown_trans (grown_drew hG3) hW))).mono ?_
  rintro e w4 ⟨rfl, g4⟩
  have hB4 := (g4.block (w.heap.size + 1) (by show w.heap.size + 1 < w3.heap.size; omega) (by simp)).trans hB3
  have hR4 := (g4.block w.heap.size (by show w.heap.size < w3.heap.size; omega) (by simp)).trans hR3
  have hG4 : w.grownBy w4 none := grown_trans (grown_drew hG3) g4
  refine hK.out _ _ hB4 ?_
  clear hK K
  try simp only [Act.put, List.setIfInBounds_toArray, List.set_cons_zero, List.set_cons_succ]
  refine anyH_step2 (i := 5) (j := 6) rfl rfl (by kernel_rfl) (fun K hK => ?_) (fun K hK => ?_)
  · have hsq := unhide HSQ
    go_simp
    refine hK.out _ _ hB4 ?_
    clear hK K hsq
    try simp only [Act.put, List.setIfInBounds_toArray, List.set_cons_zero, List.set_cons_succ]
    refine anyH_step1 (i := 6) rfl (by kernel_rfl) (fun K hK => ?_)
    refine step_store_row (by rfl) 39 _ _ rfl w.heap.size rfl (sq zs) rfl (sq zs64) 39 hR4 (by rw [unhide HSL, sq_size, zs64_len]) (by rw [unhide HSL]; kernel_rfl) (sq_one zs) ?_
    intro w5 hB5 g5
    have hB5' := (g5.block (w.heap.size + 1) (Array.getElem?_eq_some_iff.1 hB4).1 (by simp)).trans hB4
    refine hK.out _ _ hB5' ?_
    clear hK K
    try simp only [Act.put]
    refine anyH_step1 (i := 7) rfl (by kernel_rfl) (fun K hK => ?_)
    go_simp
    refine hK.out _ _ hB5' ?_
    clear hK K
    try simp only [Act.put, List.setIfInBounds_toArray, List.set_cons_zero, List.set_cons_succ]
    refine wpAnyH_done (by kernel_rfl) (NoPanic.normal ?_) _
    go_wp2
    refine bodyPost_ret (v := .tuple #[.agg (sq zs), .bool (zs == made f)]) ?_ rfl ⟨rfl, ?_⟩
    · exact results_c2 (p := 4) (q := 5) (ty := 39) rfl _ _ _ w.heap.size rfl _ (unhide HLD' _ _ hB5)
    · exact grown_new hG4 g5 (fun g e => by simp at e; omega)
  · refine step_store_row (by rfl) 39 _ _ rfl w.heap.size rfl (sq zs) rfl (sq zs64) 39 hR4 (by rw [unhide HSL, sq_size, zs64_len]) (by rw [unhide HSL]; kernel_rfl) (sq_one zs) ?_
    intro w5 hB5 g5
    have hB5' := (g5.block (w.heap.size + 1) (Array.getElem?_eq_some_iff.1 hB4).1 (by simp)).trans hB4
    refine hK.out _ _ hB5' ?_
    clear hK K
    try simp only [Act.put]
    refine anyH_step1 (i := 5) rfl (by kernel_rfl) (fun K hK => ?_)
    have hsq := unhide HSQ
    go_simp
    refine hK.out _ _ hB5' ?_
    clear hK K hsq
    try simp only [Act.put, List.setIfInBounds_toArray, List.set_cons_zero, List.set_cons_succ]
    refine anyH_step1 (i := 7) rfl (by kernel_rfl) (fun K hK => ?_)
    go_simp
    refine hK.out _ _ hB5' ?_
    clear hK K
    try simp only [Act.put, List.setIfInBounds_toArray, List.set_cons_zero, List.set_cons_succ]
    refine wpAnyH_done (by kernel_rfl) (NoPanic.normal ?_) _
    go_wp2
    refine bodyPost_ret (v := .tuple #[.agg (sq zs), .bool (zs == made f)]) ?_ rfl ⟨rfl, ?_⟩
    · exact results_c2 (p := 4) (q := 5) (ty := 39) rfl _ _ _ w.heap.size rfl _ (unhide HLD' _ _ hB5)
    · exact grown_new hG4 g5 (fun g e => by simp at e; omega)

/-- A block that is ok, a table that is ok. -/
def numsB (lo hi : Int) (zs : List Int) : Bool := decide (zs.length = 64) && zs.all (fun n => decide (lo ≤ n ∧ n ≤ hi))
theorem clip_same {lo hi : Int} (h : lo ≤ hi) (zs : List Int) (hz : zs.length = 64) : (zs == made (fun k => min (max (zs.getD k 0) lo) hi)) = numsB lo hi zs := by
  rw [Bool.eq_iff_iff]
  simp only [numsB, hz, decide_true, Bool.true_and, beq_iff_eq, List.all_eq_true, decide_eq_true_eq]
  constructor
  · intro e n hn
    obtain ⟨i, hi', rfl⟩ := List.getElem_of_mem hn
    have h1 : zs.getD i 0 = (made (fun k => min (max (zs.getD k 0) lo) hi)).getD i 0 := by rw [← e]
    rw [made_at _ i (by omega)] at h1
    have h2 : zs.getD i 0 = zs[i] := by simp [hi']
    rw [h2] at h1
    omega
  · intro hall
    apply List.ext_getElem?
    intro i
    by_cases hi' : i < zs.length
    · have h1 := hall zs[i] (List.getElem_mem hi')
      rw [List.getElem?_eq_getElem hi', List.getElem?_eq_getElem (by rw [made_len]; omega)]
      simp only [made, List.getElem_map, List.getElem_range, Option.some.injEq]
      have h2 : zs.getD i 0 = zs[i] := by simp [hi']
      rw [h2]
      omega
    · rw [List.getElem?_eq_none (by omega), List.getElem?_eq_none (by rw [made_len]; omega)]

set_option maxRecDepth 20000 in
set_option maxHeartbeats 400000 in
theorem fixBlock (ao : Option Addr) (n cap : Nat) (zs : List Int) (w : World) (hr : Rd .i64 w ao n zs) (b : Bool) (hb : Hid (numsB (-32767) 32767 zs = b)) :
    Calls Try.prog 25 #[.slice ao n cap] w fun e w' => (∃ ys, e = .returned (.tuple #[.agg (sq ys), .bool b]) ∧ ys.length = 64 ∧ (n = 64 → ys = zs)) ∧ w.grownBy w' none := by
  by_cases h : n = 64
  · subst h
    obtain ⟨bb, off, rfl, _⟩ := hr.2 0 (by omega)
    have e : (zs == made (fun k => min (max (zs.getD k 0) (-32767)) 32767)) = b := by rw [clip_same (by omega) zs hr.1]; exact unhide hb
    have HZ := hide hr.1
    have HR := hide (hr.grown (World.grownBy_alloc w (.cells #[.int .i64 0, .int .i64 0, .int .i64 0, .int .i64 0, .int .i64 0, .int .i64 0, .int .i64 0, .int .i64 0, .int .i64 0, .int .i64 0, .int .i64 0, .int .i64 0, .int .i64 0, .int .i64 0, .int .i64 0, .int .i64 0, .int .i64 0, .int .i64 0, .int .i64 0, .int .i64 0, .int .i64 0, .int .i64 0, .int .i64 0, .int .i64 0, .int .i64 0, .int .i64 0, .int .i64 0, .int .i64 0, .int .i64 0, .int .i64 0, .int .i64 0, .int .i64 0, .int .i64 0, .int .i64 0, .int .i64 0, .int .i64 0, .int .i64 0, .int .i64 0, .int .i64 0, .int .i64 0, .int .i64 0, .int .i64 0, .int .i64 0, .int .i64 0, .int .i64 0, .int .i64 0, .int .i64 0, .int .i64 0, .int .i64 0, .int .i64 0, .int .i64 0, .int .i64 0, .int .i64 0, .int .i64 0, .int .i64 0, .int .i64 0, .int .i64 0, .int .i64 0, .int .i64 0, .int .i64 0, .int .i64 0, .int .i64 0, .int .i64 0, .int .i64 0] 39) none))
    clear hr
    go_enter Try.func25, Try.ntmps25
    go_wp2_with fail
    refine (fixSquare_yes bb off cap zs _ (unhide HR) (fun k => min (max (zs.getD k 0) (-32767)) 32767) 40 #[] (enters_of Try.func40 (by kernel_rfl) rfl) (fun k hk W hW => (nearestCoef (zs.getD k 0) W).mono ?_)).mono ?_
    · rintro e w' ⟨rfl, rfl⟩
      exact ⟨rfl, World.grownBy.refl _ _⟩
    · rintro e' w' ⟨rfl, g⟩
      rw [e]
      clear HR hb e
      have hB := (g.block w.heap.size (by simp) (by simp)).trans (heap_alloc_new w _)
      have HB := hide hB
      clear hB
      go_wp2_with (refine store_row rfl 39 _ _ rfl w.heap.size rfl (sq zs) rfl #[.int .i64 0, .int .i64 0, .int .i64 0, .int .i64 0, .int .i64 0, .int .i64 0, .int .i64 0, .int .i64 0, .int .i64 0, .int .i64 0, .int .i64 0, .int .i64 0, .int .i64 0, .int .i64 0, .int .i64 0, .int .i64 0, .int .i64 0, .int .i64 0, .int .i64 0, .int .i64 0, .int .i64 0, .int .i64 0, .int .i64 0, .int .i64 0, .int .i64 0, .int .i64 0, .int .i64 0, .int .i64 0, .int .i64 0, .int .i64 0, .int .i64 0, .int .i64 0, .int .i64 0, .int .i64 0, .int .i64 0, .int .i64 0, .int .i64 0, .int .i64 0, .int .i64 0, .int .i64 0, .int .i64 0, .int .i64 0, .int .i64 0, .int .i64 0, .int .i64 0, .int .i64 0, .int .i64 0, .int .i64 0, .int .i64 0, .int .i64 0, .int .i64 0, .int .i64 0, .int .i64 0, .int .i64 0, .int .i64 0, .int .i64 0, .int .i64 0, .int .i64 0, .int .i64 0, .int .i64 0, .int .i64 0, .int .i64 0, .int .i64 0, .int .i64 0] 39 (unhide HB) (by rw [sq_size, unhide HZ]; rfl) (by rw [sq_size, unhide HZ]; kernel_rfl) (sq_one _) ?_; intro w3 hB3 g3)
      refine bodyPost_ret (v := .tuple #[.agg (sq zs), .bool b]) ?_ rfl ⟨⟨_, rfl, (by first | exact unhide HZ | exact zs64_len), ?_⟩, ?_⟩
      · exact results_c2 (p := 2) (q := 3) (ty := 39) rfl _ _ _ w.heap.size rfl _ (run_loadVar_row w3 _ 39 39 _ (0, 0) _ hB3 Try.underlying39 rfl (by rw [sq_size, unhide HZ]; kernel_rfl))
      · intro hh; first | rfl | exact absurd hh h
      · exact grown_new (grown_new (World.grownBy_alloc _ _ _) g (fun g e => by simp at e)) g3 (fun g e => by simp at e; omega)
  · have hb' : b = false := by rw [← unhide hb]; simp [numsB, hr.1, h]
    subst hb'
    clear hr hb
    go_enter Try.func25, Try.ntmps25
    go_wp2_with fail
    refine (fixSquare_no ao n cap _ _ h).mono ?_
    rintro e' w' ⟨rfl, g⟩
    have hB := (g.block w.heap.size (by simp) (by simp)).trans (heap_alloc_new w _)
    have HB := hide hB
    clear hB
    go_wp2_with (refine store_row rfl 39 _ _ rfl w.heap.size rfl (sq zs64) rfl #[.int .i64 0, .int .i64 0, .int .i64 0, .int .i64 0, .int .i64 0, .int .i64 0, .int .i64 0, .int .i64 0, .int .i64 0, .int .i64 0, .int .i64 0, .int .i64 0, .int .i64 0, .int .i64 0, .int .i64 0, .int .i64 0, .int .i64 0, .int .i64 0, .int .i64 0, .int .i64 0, .int .i64 0, .int .i64 0, .int .i64 0, .int .i64 0, .int .i64 0, .int .i64 0, .int .i64 0, .int .i64 0, .int .i64 0, .int .i64 0, .int .i64 0, .int .i64 0, .int .i64 0, .int .i64 0, .int .i64 0, .int .i64 0, .int .i64 0, .int .i64 0, .int .i64 0, .int .i64 0, .int .i64 0, .int .i64 0, .int .i64 0, .int .i64 0, .int .i64 0, .int .i64 0, .int .i64 0, .int .i64 0, .int .i64 0, .int .i64 0, .int .i64 0, .int .i64 0, .int .i64 0, .int .i64 0, .int .i64 0, .int .i64 0, .int .i64 0, .int .i64 0, .int .i64 0, .int .i64 0, .int .i64 0, .int .i64 0, .int .i64 0, .int .i64 0] 39 (unhide HB) (by rw [sq_size, zs64_len]; rfl) (by rw [sq_size, zs64_len]; kernel_rfl) (sq_one _) ?_; intro w3 hB3 g3)
    refine bodyPost_ret (v := .tuple #[.agg (sq zs64), .bool false]) ?_ rfl ⟨⟨_, rfl, (by first | exact unhide HZ | exact zs64_len), ?_⟩, ?_⟩
    · exact results_c2 (p := 2) (q := 3) (ty := 39) rfl _ _ _ w.heap.size rfl _ (run_loadVar_row w3 _ 39 39 _ (0, 0) _ hB3 Try.underlying39 rfl (by rw [sq_size, zs64_len]; kernel_rfl))
    · intro hh; first | rfl | exact absurd hh h
    · exact grown_new (grown_new (World.grownBy_alloc _ _ _) g (fun g e => by simp at e)) g3 (fun g e => by simp at e; omega)

set_option maxRecDepth 20000 in
set_option maxHeartbeats 400000 in
theorem fixTable (ao : Option Addr) (n cap : Nat) (zs : List Int) (w : World) (hr : Rd .i64 w ao n zs) (b : Bool) (hb : Hid (numsB 1 1023 zs = b)) :
    Calls Try.prog 45 #[.slice ao n cap] w fun e w' => (∃ ys, e = .returned (.tuple #[.agg (sq ys), .bool b]) ∧ ys.length = 64 ∧ (n = 64 → ys = zs)) ∧ w.grownBy w' none := by
  by_cases h : n = 64
  · subst h
    obtain ⟨bb, off, rfl, _⟩ := hr.2 0 (by omega)
    have e : (zs == made (fun k => min (max (zs.getD k 0) 1) 1023)) = b := by rw [clip_same (by omega) zs hr.1]; exact unhide hb
    have HZ := hide hr.1
    have HR := hide (hr.grown (World.grownBy_alloc w (.cells #[.int .i64 0, .int .i64 0, .int .i64 0, .int .i64 0, .int .i64 0, .int .i64 0, .int .i64 0, .int .i64 0, .int .i64 0, .int .i64 0, .int .i64 0, .int .i64 0, .int .i64 0, .int .i64 0, .int .i64 0, .int .i64 0, .int .i64 0, .int .i64 0, .int .i64 0, .int .i64 0, .int .i64 0, .int .i64 0, .int .i64 0, .int .i64 0, .int .i64 0, .int .i64 0, .int .i64 0, .int .i64 0, .int .i64 0, .int .i64 0, .int .i64 0, .int .i64 0, .int .i64 0, .int .i64 0, .int .i64 0, .int .i64 0, .int .i64 0, .int .i64 0, .int .i64 0, .int .i64 0, .int .i64 0, .int .i64 0, .int .i64 0, .int .i64 0, .int .i64 0, .int .i64 0, .int .i64 0, .int .i64 0, .int .i64 0, .int .i64 0, .int .i64 0, .int .i64 0, .int .i64 0, .int .i64 0, .int .i64 0, .int .i64 0, .int .i64 0, .int .i64 0, .int .i64 0, .int .i64 0, .int .i64 0, .int .i64 0, .int .i64 0, .int .i64 0] 39) none))
    clear hr
    go_enter Try.func45, Try.ntmps45
    go_wp2_with fail
    refine (fixSquare_yes bb off cap zs _ (unhide HR) (fun k => min (max (zs.getD k 0) 1) 1023) 50 #[] (enters_of Try.func50 (by kernel_rfl) rfl) (fun k hk W hW => (nearestStep (zs.getD k 0) W).mono ?_)).mono ?_
    · rintro e w' ⟨rfl, rfl⟩
      exact ⟨rfl, World.grownBy.refl _ _⟩
    · rintro e' w' ⟨rfl, g⟩
      rw [e]
      clear HR hb e
      have hB := (g.block w.heap.size (by simp) (by simp)).trans (heap_alloc_new w _)
      have HB := hide hB
      clear hB
      go_wp2_with (refine store_row rfl 39 _ _ rfl w.heap.size rfl (sq zs) rfl #[.int .i64 0, .int .i64 0, .int .i64 0, .int .i64 0, .int .i64 0, .int .i64 0, .int .i64 0, .int .i64 0, .int .i64 0, .int .i64 0, .int .i64 0, .int .i64 0, .int .i64 0, .int .i64 0, .int .i64 0, .int .i64 0, .int .i64 0, .int .i64 0, .int .i64 0, .int .i64 0, .int .i64 0, .int .i64 0, .int .i64 0, .int .i64 0, .int .i64 0, .int .i64 0, .int .i64 0, .int .i64 0, .int .i64 0, .int .i64 0, .int .i64 0, .int .i64 0, .int .i64 0, .int .i64 0, .int .i64 0, .int .i64 0, .int .i64 0, .int .i64 0, .int .i64 0, .int .i64 0, .int .i64 0, .int .i64 0, .int .i64 0, .int .i64 0, .int .i64 0, .int .i64 0, .int .i64 0, .int .i64 0, .int .i64 0, .int .i64 0, .int .i64 0, .int .i64 0, .int .i64 0, .int .i64 0, .int .i64 0, .int .i64 0, .int .i64 0, .int .i64 0, .int .i64 0, .int .i64 0, .int .i64 0, .int .i64 0, .int .i64 0, .int .i64 0] 39 (unhide HB) (by rw [sq_size, unhide HZ]; rfl) (by rw [sq_size, unhide HZ]; kernel_rfl) (sq_one _) ?_; intro w3 hB3 g3)
      refine bodyPost_ret (v := .tuple #[.agg (sq zs), .bool b]) ?_ rfl ⟨⟨_, rfl, (by first | exact unhide HZ | exact zs64_len), ?_⟩, ?_⟩
      · exact results_c2 (p := 2) (q := 3) (ty := 39) rfl _ _ _ w.heap.size rfl _ (run_loadVar_row w3 _ 39 39 _ (0, 0) _ hB3 Try.underlying39 rfl (by rw [sq_size, unhide HZ]; kernel_rfl))
      · intro hh; first | rfl | exact absurd hh h
      · exact grown_new (grown_new (World.grownBy_alloc _ _ _) g (fun g e => by simp at e)) g3 (fun g e => by simp at e; omega)
  · have hb' : b = false := by rw [← unhide hb]; simp [numsB, hr.1, h]
    subst hb'
    clear hr hb
    go_enter Try.func45, Try.ntmps45
    go_wp2_with fail
    refine (fixSquare_no ao n cap _ _ h).mono ?_
    rintro e' w' ⟨rfl, g⟩
    have hB := (g.block w.heap.size (by simp) (by simp)).trans (heap_alloc_new w _)
    have HB := hide hB
    clear hB
    go_wp2_with (refine store_row rfl 39 _ _ rfl w.heap.size rfl (sq zs64) rfl #[.int .i64 0, .int .i64 0, .int .i64 0, .int .i64 0, .int .i64 0, .int .i64 0, .int .i64 0, .int .i64 0, .int .i64 0, .int .i64 0, .int .i64 0, .int .i64 0, .int .i64 0, .int .i64 0, .int .i64 0, .int .i64 0, .int .i64 0, .int .i64 0, .int .i64 0, .int .i64 0, .int .i64 0, .int .i64 0, .int .i64 0, .int .i64 0, .int .i64 0, .int .i64 0, .int .i64 0, .int .i64 0, .int .i64 0, .int .i64 0, .int .i64 0, .int .i64 0, .int .i64 0, .int .i64 0, .int .i64 0, .int .i64 0, .int .i64 0, .int .i64 0, .int .i64 0, .int .i64 0, .int .i64 0, .int .i64 0, .int .i64 0, .int .i64 0, .int .i64 0, .int .i64 0, .int .i64 0, .int .i64 0, .int .i64 0, .int .i64 0, .int .i64 0, .int .i64 0, .int .i64 0, .int .i64 0, .int .i64 0, .int .i64 0, .int .i64 0, .int .i64 0, .int .i64 0, .int .i64 0, .int .i64 0, .int .i64 0, .int .i64 0, .int .i64 0] 39 (unhide HB) (by rw [sq_size, zs64_len]; rfl) (by rw [sq_size, zs64_len]; kernel_rfl) (sq_one _) ?_; intro w3 hB3 g3)
    refine bodyPost_ret (v := .tuple #[.agg (sq zs64), .bool false]) ?_ rfl ⟨⟨_, rfl, (by first | exact unhide HZ | exact zs64_len), ?_⟩, ?_⟩
    · exact results_c2 (p := 2) (q := 3) (ty := 39) rfl _ _ _ w.heap.size rfl _ (run_loadVar_row w3 _ 39 39 _ (0, 0) _ hB3 Try.underlying39 rfl (by rw [sq_size, zs64_len]; kernel_rfl))
    · intro hh; first | rfl | exact absurd hh h
    · exact grown_new (grown_new (World.grownBy_alloc _ _ _) g (fun g e => by simp at e)) g3 (fun g e => by simp at e; omega)

end Go.Proofs.Ytoeehfjbnbbijab
