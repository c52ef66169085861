/-
  Waves in the program: both ways, and the three functions.
-/
import Derived.Test.YtoeehfjbnbbijabDoorWaveImpl3
namespace Go.Proofs.YtoeehfjbnbbijabDoor
open Go.RowKit Go.Shelf

def wavesP (ls : List Int) (v : Nat) : Int := sumTo (wavesF ls v) 8
def samplesP (ls : List Int) (x : Nat) : Int := sumTo (samplesF ls x) 8
/-- What becomes of a square when its rows and then its columns go through L. -/
def oneWay (L : List Int → Nat → Int) (zs : List Int) : List Int := made (rowsOf (fun k => L (row8 zs k)))
def twoWays (L : List Int → Nat → Int) (zs : List Int) : List Int := turnedL (oneWay L (turnedL (oneWay L zs)))
theorem one_len (L : List Int → Nat → Int) (zs : List Int) : (oneWay L zs).length = 64 := made_len _
theorem turned_len (zs : List Int) : (turnedL zs).length = 64 := made_len _

set_option maxRecDepth 20000 in
set_option maxHeartbeats 3200000 in
theorem bothWays (zs : List Int) (hz : zs.length = 64) (L : List Int → Nat → Int) (g : Nat) (eg : ∀ args w, (callFunc g args).run Tryd.prog w = .ok (.enter g args) w) (w : World) (hq : Qw w)
    (HP : Hid (∀ ls, LineIn 1000000000 ls → ∀ W, Calls Tryd.prog g #[.agg (sq ls), .agg (sq wvL)] W fun e W' => e = .returned (.agg (sq (made8 (L ls)))) ∧ W.grownBy W' none))
    (h1 : Hid (∀ k, k < 8 → LineIn 1000000000 (row8 zs k))) (h2 : Hid (∀ k, k < 8 → LineIn 1000000000 (row8 (turnedL (oneWay L zs)) k))) (h3 : Hid (∀ p, p < 64 → -1000000000000000 ≤ (twoWays L zs).getD p 0 ∧ (twoWays L zs).getD p 0 ≤ 1000000000000000)) :
    Calls Tryd.prog 18 #[.agg (sq zs), .func (.func g) #[] #[]] w fun e w' => e = .returned (.agg (sq (made (fun p => roundI ((twoWays L zs).getD p 0))))) ∧ w.grownBy w' none := by
  obtain ⟨W0, hW0⟩ : ∃ W0, (w.alloc (.cells (sq zs) 35)).alloc (.cells #[.int .i64 0, .int .i64 0, .int .i64 0, .int .i64 0, .int .i64 0, .int .i64 0, .int .i64 0, .int .i64 0, .int .i64 0, .int .i64 0, .int .i64 0, .int .i64 0, .int .i64 0, .int .i64 0, .int .i64 0, .int .i64 0, .int .i64 0, .int .i64 0, .int .i64 0, .int .i64 0, .int .i64 0, .int .i64 0, .int .i64 0, .int .i64 0, .int .i64 0, .int .i64 0, .int .i64 0, .int .i64 0, .int .i64 0, .int .i64 0, .int .i64 0, .int .i64 0, .int .i64 0, .int .i64 0, .int .i64 0, .int .i64 0, .int .i64 0, .int .i64 0, .int .i64 0, .int .i64 0, .int .i64 0, .int .i64 0, .int .i64 0, .int .i64 0, .int .i64 0, .int .i64 0, .int .i64 0, .int .i64 0, .int .i64 0, .int .i64 0, .int .i64 0, .int .i64 0, .int .i64 0, .int .i64 0, .int .i64 0, .int .i64 0, .int .i64 0, .int .i64 0, .int .i64 0, .int .i64 0, .int .i64 0, .int .i64 0, .int .i64 0, .int .i64 0] 35) = W0 := ⟨_, rfl⟩
  have b0 : W0.heap[w.heap.size]? = some (.cells (sq zs) 35 (0, 0)) := by
    rw [← hW0, Below.heap_alloc _ _ _ (by simp)]
    exact heap_alloc_new w _
  have b1 : W0.heap[w.heap.size + 1]? = some (.cells (sq zs64) 35 (0, 0)) := by
    rw [← hW0, sq_z64]
    have := heap_alloc_new (w.alloc (.cells (sq zs) 35)) (.cells #[.int .i64 0, .int .i64 0, .int .i64 0, .int .i64 0, .int .i64 0, .int .i64 0, .int .i64 0, .int .i64 0, .int .i64 0, .int .i64 0, .int .i64 0, .int .i64 0, .int .i64 0, .int .i64 0, .int .i64 0, .int .i64 0, .int .i64 0, .int .i64 0, .int .i64 0, .int .i64 0, .int .i64 0, .int .i64 0, .int .i64 0, .int .i64 0, .int .i64 0, .int .i64 0, .int .i64 0, .int .i64 0, .int .i64 0, .int .i64 0, .int .i64 0, .int .i64 0, .int .i64 0, .int .i64 0, .int .i64 0, .int .i64 0, .int .i64 0, .int .i64 0, .int .i64 0, .int .i64 0, .int .i64 0, .int .i64 0, .int .i64 0, .int .i64 0, .int .i64 0, .int .i64 0, .int .i64 0, .int .i64 0, .int .i64 0, .int .i64 0, .int .i64 0, .int .i64 0, .int .i64 0, .int .i64 0, .int .i64 0, .int .i64 0, .int .i64 0, .int .i64 0, .int .i64 0, .int .i64 0, .int .i64 0, .int .i64 0, .int .i64 0, .int .i64 0] 35)
    simpa using this
  have hsz : W0.heap.size = w.heap.size + 2 := by rw [← hW0]; simp
  have G0 : w.grownBy W0 none := by rw [← hW0]; exact grown_alloc (grown_alloc (World.grownBy.refl _ _) _) _
  have HQ : Hid (Qw W0) := hq.grown G0
  have HG0 := hide G0
  have HW := hide hW0
  have B0 := hide b0
  have B1 := hide b1
  have HZS : Hid ((sq zs).size = 64) := by unfold Hid; rw [sq_size, hz]
  have HWV : Hid ((sq wvL).size = 64) := by unfold Hid; rw [sq_size, wv_len]
  have HZ := hide hz
  clear hW0 b0 b1 hz hq G0
  go_enter Tryd.func18, Tryd.ntmps18
  go_wp2_with fail
  rw [unhide HW]
  clear HW
  refine (waveBasis W0 (unhide HQ)).mono ?_
  rintro e w1 ⟨rfl, g1⟩
  have s1 := g1.size
  have HS1 := hide ((g1.block w.heap.size (by omega) (by simp)).trans (unhide B0))
  have HR1 := hide ((g1.block (w.heap.size + 1) (by omega) (by simp)).trans (unhide B1))
  have HG1 : Hid (w.grownBy w1 none) := grown_trans (unhide HG0) g1
  clear g1 HQ
  go_wp2_with (first | (refine store_row rfl 35 _ _ rfl w1.heap.size rfl (sq wvL) rfl #[.int .i64 0, .int .i64 0, .int .i64 0, .int .i64 0, .int .i64 0, .int .i64 0, .int .i64 0, .int .i64 0, .int .i64 0, .int .i64 0, .int .i64 0, .int .i64 0, .int .i64 0, .int .i64 0, .int .i64 0, .int .i64 0, .int .i64 0, .int .i64 0, .int .i64 0, .int .i64 0, .int .i64 0, .int .i64 0, .int .i64 0, .int .i64 0, .int .i64 0, .int .i64 0, .int .i64 0, .int .i64 0, .int .i64 0, .int .i64 0, .int .i64 0, .int .i64 0, .int .i64 0, .int .i64 0, .int .i64 0, .int .i64 0, .int .i64 0, .int .i64 0, .int .i64 0, .int .i64 0, .int .i64 0, .int .i64 0, .int .i64 0, .int .i64 0, .int .i64 0, .int .i64 0, .int .i64 0, .int .i64 0, .int .i64 0, .int .i64 0, .int .i64 0, .int .i64 0, .int .i64 0, .int .i64 0, .int .i64 0, .int .i64 0, .int .i64 0, .int .i64 0, .int .i64 0, .int .i64 0, .int .i64 0, .int .i64 0, .int .i64 0, .int .i64 0] 35 (heap_alloc_new _ _) (by rw [unhide HWV]; rfl) (by rw [unhide HWV]; kernel_rfl) (sq_one _) ?_; intro w2 hB2 g2; have s2 : w1.heap.size + 1 ≤ w2.heap.size := (by have := g2.size; simpa using this); have HS2 := hide ((g2.block w.heap.size (by simp; omega) (by simp; omega)).trans ((Below.heap_alloc _ _ _ (by omega)).trans (unhide HS1))); have HR2 := hide ((g2.block (w.heap.size + 1) (by simp; omega) (by simp; omega)).trans ((Below.heap_alloc _ _ _ (by omega)).trans (unhide HR1))); have HG2 : Hid (w.grownBy w2 none) := grown_new (grown_alloc (unhide HG1) _) g2 (fun g e => by simp at e; omega); have HB2 := hide hB2; clear hB2 g2) | (refine load_row rfl 35 _ rfl w.heap.size rfl (sq zs) 35 (unhide HS2) _ Tryd.underlying35 rfl (by rw [unhide HZS]; kernel_rfl) ?_) | (refine load_row rfl 35 _ rfl w1.heap.size rfl (sq wvL) 35 (unhide HB2) _ Tryd.underlying35 rfl (by rw [unhide HWV]; kernel_rfl) ?_))
  refine (eachRow zs wvL (unhide HZ) wv_len (fun k => L (row8 zs k)) g eg w2 (fun k hk W hW => unhide HP _ (unhide h1 k hk) W)).mono ?_
  rintro e w3 ⟨rfl, g3⟩
  have e3 : made (rowsOf fun k => L (row8 zs k)) = oneWay L zs := rfl
  rw [e3]
  clear e3
  have s3 := g3.size
  have HB3 := hide ((g3.block w1.heap.size (by omega) (by simp)).trans (unhide HB2))
  have HR3 := hide ((g3.block (w.heap.size + 1) (by omega) (by simp)).trans (unhide HR2))
  have HG3 : Hid (w.grownBy w3 none) := grown_trans (unhide HG2) g3
  have HO : Hid ((sq (oneWay L zs)).size = 64) := by unfold Hid; rw [sq_size, one_len]
  clear g3 HB2 HR2 HG2 HS2 HS1 HR1 HG1
  go_wp2_with (refine store_row rfl 35 _ _ rfl w3.heap.size rfl (sq (oneWay L zs)) rfl #[.int .i64 0, .int .i64 0, .int .i64 0, .int .i64 0, .int .i64 0, .int .i64 0, .int .i64 0, .int .i64 0, .int .i64 0, .int .i64 0, .int .i64 0, .int .i64 0, .int .i64 0, .int .i64 0, .int .i64 0, .int .i64 0, .int .i64 0, .int .i64 0, .int .i64 0, .int .i64 0, .int .i64 0, .int .i64 0, .int .i64 0, .int .i64 0, .int .i64 0, .int .i64 0, .int .i64 0, .int .i64 0, .int .i64 0, .int .i64 0, .int .i64 0, .int .i64 0, .int .i64 0, .int .i64 0, .int .i64 0, .int .i64 0, .int .i64 0, .int .i64 0, .int .i64 0, .int .i64 0, .int .i64 0, .int .i64 0, .int .i64 0, .int .i64 0, .int .i64 0, .int .i64 0, .int .i64 0, .int .i64 0, .int .i64 0, .int .i64 0, .int .i64 0, .int .i64 0, .int .i64 0, .int .i64 0, .int .i64 0, .int .i64 0, .int .i64 0, .int .i64 0, .int .i64 0, .int .i64 0, .int .i64 0, .int .i64 0, .int .i64 0, .int .i64 0] 35 (heap_alloc_new _ _) (by rw [unhide HO]; rfl) (by rw [unhide HO]; kernel_rfl) (sq_one _) ?_; intro w4 hB4 g4)
  have s4 : w3.heap.size + 1 ≤ w4.heap.size := by have := g4.size; simpa using this
  have hC4 := (g4.block w1.heap.size (by simp; omega) (by simp; omega)).trans ((Below.heap_alloc _ _ _ (by omega)).trans (unhide HB3))
  have hR4 := (g4.block (w.heap.size + 1) (by simp; omega) (by simp; omega)).trans ((Below.heap_alloc _ _ _ (by omega)).trans (unhide HR3))
  have hG4 : w.grownBy w4 none := grown_new (grown_alloc (unhide HG3) _) g4 (fun g e => by simp at e; omega)
  clear g4 HB3 HR3 HG3
  have HO2 : Hid ((sq (oneWay L (turnedL (oneWay L zs)))).size = 64) := by unfold Hid; rw [sq_size, one_len]
  refine wp_region_noPanic ?_
  refine wp_region_raw (fun w' => w'.heap[w3.heap.size]? = some (.cells (sq (oneWay L zs)) 35 (0, 0)) ∧ w'.heap[w1.heap.size]? = some (.cells (sq wvL) 35 (0, 0))) [true, false, true, true, false, false, false] (by kernel_rfl) (fun _ _ _ _ _ h => h) rfl (by kernel_rfl) ⟨hB4, hC4⟩ ?_
  refine heldF_take (v := .agg (sq (oneWay L zs))) (Or.inl ⟨by rfl, ?_⟩) ?_
  · intro w' hSw
    exact exec_row 35 _ rfl w3.heap.size rfl (sq (oneWay L zs)) 35 hSw.1 _ Tryd.underlying35 rfl (by rw [unhide HO]; kernel_rfl)
  simp only [Act.put, List.setIfInBounds_toArray, List.set_cons_zero, List.set_cons_succ]
  refine heldF_skip ?_
  refine heldF_take (v := ?_) (Or.inl ⟨by rfl, ?_⟩) ?_
  rotate_left 1
  · intro w' hSw
    go_simp
    try with_reducible rfl
  simp only [Act.put, List.setIfInBounds_toArray, List.set_cons_zero, List.set_cons_succ]
  refine heldF_take (v := .agg (sq wvL)) (Or.inl ⟨by rfl, ?_⟩) ?_
  · intro w' hSw
    exact exec_row 35 _ rfl w1.heap.size rfl (sq wvL) 35 hSw.2 _ Tryd.underlying35 rfl (by rw [unhide HWV]; kernel_rfl)
  simp only [Act.put, List.setIfInBounds_toArray, List.set_cons_zero, List.set_cons_succ]
  refine heldF_skip (heldF_skip (heldF_skip (heldF_nil ?_)))
  have hB_0 := hB4
  have hC_0 := hC4
  have hR_0 := hR4
  have hG_0 := grown_drew hG4
  have sd : w4.drew.heap.size = w4.heap.size := rfl
  refine anyH_step2 (i := 1) (j := 5) rfl rfl (by kernel_rfl) (fun K hK => ?_) (fun K hK => ?_)
  · go_simp
    refine (turned (oneWay L zs) (one_len _ _) w4.drew).mono ?_
    rintro e w11 ⟨rfl, g11⟩
    have s11 : w4.drew.heap.size ≤ w11.heap.size := g11.size
    have hB_11 := (g11.block w3.heap.size (by show w3.heap.size < w4.drew.heap.size; omega) (by simp)).trans hB_0
    have hC_11 := (g11.block w1.heap.size (by show w1.heap.size < w4.drew.heap.size; omega) (by simp)).trans hC_0
    have hR_11 := (g11.block (w.heap.size + 1) (by show (w.heap.size + 1) < w4.drew.heap.size; omega) (by simp)).trans hR_0
    have hG_11 : w.grownBy w11 none := grown_trans hG_0 g11
    refine hK.out _ _ ⟨hB_11, hC_11⟩ ?_
    clear hK K
    try simp only [Act.put, List.setIfInBounds_toArray, List.set_cons_zero, List.set_cons_succ]
    refine anyH_step2 (i := 4) (j := 5) rfl rfl (by kernel_rfl) (fun K hK => ?_) (fun K hK => ?_)
    · go_simp
      refine (eachRow (turnedL (oneWay L zs)) wvL (turned_len _) wv_len (fun k => L (row8 (turnedL (oneWay L zs)) k)) g eg w11 (fun k hk W hW => unhide HP _ (unhide h2 k hk) W)).mono ?_
      rintro e w12 ⟨rfl, g12⟩
      have s12 : w11.heap.size ≤ w12.heap.size := g12.size
      have hB_12 := (g12.block w3.heap.size (by show w3.heap.size < w11.heap.size; omega) (by simp)).trans hB_11
      have hC_12 := (g12.block w1.heap.size (by show w1.heap.size < w11.heap.size; omega) (by simp)).trans hC_11
      have hR_12 := (g12.block (w.heap.size + 1) (by show (w.heap.size + 1) < w11.heap.size; omega) (by simp)).trans hR_11
      have hG_12 : w.grownBy w12 none := grown_trans hG_11 g12
      have e12 : made (rowsOf fun k => L (row8 (turnedL (oneWay L zs)) k)) = oneWay L (turnedL (oneWay L zs)) := rfl
      rw [e12]
      refine hK.out _ _ ⟨hB_12, hC_12⟩ ?_
      clear hK K
      try simp only [Act.put, List.setIfInBounds_toArray, List.set_cons_zero, List.set_cons_succ]
      refine anyH_step1 (i := 5) rfl (by kernel_rfl) (fun K hK => ?_)
      go_simp
      obtain ⟨w13, hw13⟩ : ∃ W, w12.alloc (.cells #[.int .i64 0, .int .i64 0, .int .i64 0, .int .i64 0, .int .i64 0, .int .i64 0, .int .i64 0, .int .i64 0, .int .i64 0, .int .i64 0, .int .i64 0, .int .i64 0, .int .i64 0, .int .i64 0, .int .i64 0, .int .i64 0, .int .i64 0, .int .i64 0, .int .i64 0, .int .i64 0, .int .i64 0, .int .i64 0, .int .i64 0, .int .i64 0, .int .i64 0, .int .i64 0, .int .i64 0, .int .i64 0, .int .i64 0, .int .i64 0, .int .i64 0, .int .i64 0, .int .i64 0, .int .i64 0, .int .i64 0, .int .i64 0, .int .i64 0, .int .i64 0, .int .i64 0, .int .i64 0, .int .i64 0, .int .i64 0, .int .i64 0, .int .i64 0, .int .i64 0, .int .i64 0, .int .i64 0, .int .i64 0, .int .i64 0, .int .i64 0, .int .i64 0, .int .i64 0, .int .i64 0, .int .i64 0, .int .i64 0, .int .i64 0, .int .i64 0, .int .i64 0, .int .i64 0, .int .i64 0, .int .i64 0, .int .i64 0, .int .i64 0, .int .i64 0] 35) = W := ⟨_, rfl⟩
      have hB_13 := (Below.heap_alloc w12 (.cells #[.int .i64 0, .int .i64 0, .int .i64 0, .int .i64 0, .int .i64 0, .int .i64 0, .int .i64 0, .int .i64 0, .int .i64 0, .int .i64 0, .int .i64 0, .int .i64 0, .int .i64 0, .int .i64 0, .int .i64 0, .int .i64 0, .int .i64 0, .int .i64 0, .int .i64 0, .int .i64 0, .int .i64 0, .int .i64 0, .int .i64 0, .int .i64 0, .int .i64 0, .int .i64 0, .int .i64 0, .int .i64 0, .int .i64 0, .int .i64 0, .int .i64 0, .int .i64 0, .int .i64 0, .int .i64 0, .int .i64 0, .int .i64 0, .int .i64 0, .int .i64 0, .int .i64 0, .int .i64 0, .int .i64 0, .int .i64 0, .int .i64 0, .int .i64 0, .int .i64 0, .int .i64 0, .int .i64 0, .int .i64 0, .int .i64 0, .int .i64 0, .int .i64 0, .int .i64 0, .int .i64 0, .int .i64 0, .int .i64 0, .int .i64 0, .int .i64 0, .int .i64 0, .int .i64 0, .int .i64 0, .int .i64 0, .int .i64 0, .int .i64 0, .int .i64 0] 35) w3.heap.size (by show w3.heap.size < w12.heap.size; omega)).trans hB_12
      have hC_13 := (Below.heap_alloc w12 (.cells #[.int .i64 0, .int .i64 0, .int .i64 0, .int .i64 0, .int .i64 0, .int .i64 0, .int .i64 0, .int .i64 0, .int .i64 0, .int .i64 0, .int .i64 0, .int .i64 0, .int .i64 0, .int .i64 0, .int .i64 0, .int .i64 0, .int .i64 0, .int .i64 0, .int .i64 0, .int .i64 0, .int .i64 0, .int .i64 0, .int .i64 0, .int .i64 0, .int .i64 0, .int .i64 0, .int .i64 0, .int .i64 0, .int .i64 0, .int .i64 0, .int .i64 0, .int .i64 0, .int .i64 0, .int .i64 0, .int .i64 0, .int .i64 0, .int .i64 0, .int .i64 0, .int .i64 0, .int .i64 0, .int .i64 0, .int .i64 0, .int .i64 0, .int .i64 0, .int .i64 0, .int .i64 0, .int .i64 0, .int .i64 0, .int .i64 0, .int .i64 0, .int .i64 0, .int .i64 0, .int .i64 0, .int .i64 0, .int .i64 0, .int .i64 0, .int .i64 0, .int .i64 0, .int .i64 0, .int .i64 0, .int .i64 0, .int .i64 0, .int .i64 0, .int .i64 0] 35) w1.heap.size (by show w1.heap.size < w12.heap.size; omega)).trans hC_12
      have hR_13 := (Below.heap_alloc w12 (.cells #[.int .i64 0, .int .i64 0, .int .i64 0, .int .i64 0, .int .i64 0, .int .i64 0, .int .i64 0, .int .i64 0, .int .i64 0, .int .i64 0, .int .i64 0, .int .i64 0, .int .i64 0, .int .i64 0, .int .i64 0, .int .i64 0, .int .i64 0, .int .i64 0, .int .i64 0, .int .i64 0, .int .i64 0, .int .i64 0, .int .i64 0, .int .i64 0, .int .i64 0, .int .i64 0, .int .i64 0, .int .i64 0, .int .i64 0, .int .i64 0, .int .i64 0, .int .i64 0, .int .i64 0, .int .i64 0, .int .i64 0, .int .i64 0, .int .i64 0, .int .i64 0, .int .i64 0, .int .i64 0, .int .i64 0, .int .i64 0, .int .i64 0, .int .i64 0, .int .i64 0, .int .i64 0, .int .i64 0, .int .i64 0, .int .i64 0, .int .i64 0, .int .i64 0, .int .i64 0, .int .i64 0, .int .i64 0, .int .i64 0, .int .i64 0, .int .i64 0, .int .i64 0, .int .i64 0, .int .i64 0, .int .i64 0, .int .i64 0, .int .i64 0, .int .i64 0] 35) (w.heap.size + 1) (by show (w.heap.size + 1) < w12.heap.size; omega)).trans hR_12
      have hN_13 := heap_alloc_new w12 (.cells #[.int .i64 0, .int .i64 0, .int .i64 0, .int .i64 0, .int .i64 0, .int .i64 0, .int .i64 0, .int .i64 0, .int .i64 0, .int .i64 0, .int .i64 0, .int .i64 0, .int .i64 0, .int .i64 0, .int .i64 0, .int .i64 0, .int .i64 0, .int .i64 0, .int .i64 0, .int .i64 0, .int .i64 0, .int .i64 0, .int .i64 0, .int .i64 0, .int .i64 0, .int .i64 0, .int .i64 0, .int .i64 0, .int .i64 0, .int .i64 0, .int .i64 0, .int .i64 0, .int .i64 0, .int .i64 0, .int .i64 0, .int .i64 0, .int .i64 0, .int .i64 0, .int .i64 0, .int .i64 0, .int .i64 0, .int .i64 0, .int .i64 0, .int .i64 0, .int .i64 0, .int .i64 0, .int .i64 0, .int .i64 0, .int .i64 0, .int .i64 0, .int .i64 0, .int .i64 0, .int .i64 0, .int .i64 0, .int .i64 0, .int .i64 0, .int .i64 0, .int .i64 0, .int .i64 0, .int .i64 0, .int .i64 0, .int .i64 0, .int .i64 0, .int .i64 0] 35)
      have hG_13 : w.grownBy w13 none := by rw [← hw13]; exact grown_alloc hG_12 _
      have s13 : w13.heap.size = w12.heap.size + 1 := by rw [← hw13]; simp
      rw [hw13] at hB_13 hC_13 hR_13 hN_13
      rw [hw13]
      clear hw13
      change w13.heap[w12.heap.size]? = _ at hN_13
      refine hK.out _ _ ⟨hB_13, hC_13⟩ ?_
      clear hK K
      try simp only [Act.put, List.setIfInBounds_toArray, List.set_cons_zero, List.set_cons_succ]
      refine anyH_step1 (i := 6) rfl (by kernel_rfl) (fun K hK => ?_)
      refine step_store_row (by rfl) 35 _ _ rfl w12.heap.size rfl (sq (oneWay L (turnedL (oneWay L zs)))) rfl #[.int .i64 0, .int .i64 0, .int .i64 0, .int .i64 0, .int .i64 0, .int .i64 0, .int .i64 0, .int .i64 0, .int .i64 0, .int .i64 0, .int .i64 0, .int .i64 0, .int .i64 0, .int .i64 0, .int .i64 0, .int .i64 0, .int .i64 0, .int .i64 0, .int .i64 0, .int .i64 0, .int .i64 0, .int .i64 0, .int .i64 0, .int .i64 0, .int .i64 0, .int .i64 0, .int .i64 0, .int .i64 0, .int .i64 0, .int .i64 0, .int .i64 0, .int .i64 0, .int .i64 0, .int .i64 0, .int .i64 0, .int .i64 0, .int .i64 0, .int .i64 0, .int .i64 0, .int .i64 0, .int .i64 0, .int .i64 0, .int .i64 0, .int .i64 0, .int .i64 0, .int .i64 0, .int .i64 0, .int .i64 0, .int .i64 0, .int .i64 0, .int .i64 0, .int .i64 0, .int .i64 0, .int .i64 0, .int .i64 0, .int .i64 0, .int .i64 0, .int .i64 0, .int .i64 0, .int .i64 0, .int .i64 0, .int .i64 0, .int .i64 0, .int .i64 0] 35 hN_13 (by rw [unhide HO2]; rfl) (by rw [unhide HO2]; kernel_rfl) (sq_one _) ?_
      intro w14 hN_14 g14
      have s14 := g14.size
      have hB_14 := (g14.block w3.heap.size (by omega) (by simp; omega)).trans hB_13
      have hC_14 := (g14.block w1.heap.size (by omega) (by simp; omega)).trans hC_13
      have hR_14 := (g14.block (w.heap.size + 1) (by omega) (by simp; omega)).trans hR_13
      have hG_14 : w.grownBy w14 none := grown_new hG_13 g14 (fun g e => by simp at e; omega)
      refine hK.out _ _ ⟨hB_14, hC_14⟩ ?_
      clear hK K
      try simp only [Act.put]
      refine wpAnyH_done (by kernel_rfl) (NoPanic.normal ?_) _
      have HN := hide hN_14
      have HR := hide hR_14
      have HG := hide hG_14
      clear hN_14 hR_14 hG_14 hB_14 hC_14
      go_wp2_with (refine load_row rfl 35 _ rfl w12.heap.size rfl (sq (oneWay L (turnedL (oneWay L zs)))) 35 (unhide HN) _ Tryd.underlying35 rfl (by rw [unhide HO2]; kernel_rfl) ?_)
      refine (turned (oneWay L (turnedL (oneWay L zs))) (one_len _ _) w14).mono ?_
      rintro e wa ⟨rfl, ga⟩
      have ea : turnedL (oneWay L (turnedL (oneWay L zs))) = twoWays L zs := rfl
      rw [ea]
      clear ea
      have HR2 := hide ((ga.block (w.heap.size + 1) (by omega) (by simp)).trans (unhide HR))
      have HG2 := hide (grown_trans (unhide HG) ga)
      have sa := ga.size
      clear ga HN HR HG
      go_wp2_with fail
      refine (each (twoWays L zs) (turned_len _) (fun p => roundI ((twoWays L zs).getD p 0)) 37 #[] (enters_of Tryd.func37 (by kernel_rfl) rfl) wa (fun k hk W hW => (unscaled _ _ (unhide h3 k hk) rfl W).mono ?_)).mono ?_
      · rintro e w' ⟨rfl, rfl⟩
        exact ⟨rfl, World.grownBy.refl _ _⟩
      · rintro e wb ⟨rfl, gb⟩
        have HR3 := hide ((gb.block (w.heap.size + 1) (by omega) (by simp)).trans (unhide HR2))
        have HG3 := hide (grown_trans (unhide HG2) gb)
        have HMS : Hid ((sq (made (fun p => roundI ((twoWays L zs).getD p 0)))).size = 64) := by unfold Hid; rw [sq_size, made_len]
        clear gb HR2 HG2
        go_wp2_with (refine store_row rfl 35 _ _ rfl (w.heap.size + 1) rfl (sq (made (fun p => roundI ((twoWays L zs).getD p 0)))) rfl (sq zs64) 35 (unhide HR3) (by rw [unhide HMS, sq_size, zs64_len]) (by rw [unhide HMS]; kernel_rfl) (sq_one _) ?_; intro wc hBc gc)
        refine bodyPost_ret (v := .agg (sq (made (fun p => roundI ((twoWays L zs).getD p 0))))) ?_ rfl ⟨rfl, ?_⟩
        · rw [results_c1 rfl]
          exact run_loadVar_row wc _ 35 35 _ (0, 0) _ hBc Tryd.underlying35 rfl (by rw [unhide HMS]; kernel_rfl)
        · exact grown_new (unhide HG3) gc (fun g e => by simp at e; omega)
    · go_simp
      obtain ⟨w15, hw15⟩ : ∃ W, w11.alloc (.cells #[.int .i64 0, .int .i64 0, .int .i64 0, .int .i64 0, .int .i64 0, .int .i64 0, .int .i64 0, .int .i64 0, .int .i64 0, .int .i64 0, .int .i64 0, .int .i64 0, .int .i64 0, .int .i64 0, .int .i64 0, .int .i64 0, .int .i64 0, .int .i64 0, .int .i64 0, .int .i64 0, .int .i64 0, .int .i64 0, .int .i64 0, .int .i64 0, .int .i64 0, .int .i64 0, .int .i64 0, .int .i64 0, .int .i64 0, .int .i64 0, .int .i64 0, .int .i64 0, .int .i64 0, .int .i64 0, .int .i64 0, .int .i64 0, .int .i64 0, .int .i64 0, .int .i64 0, .int .i64 0, .int .i64 0, .int .i64 0, .int .i64 0, .int .i64 0, .int .i64 0, .int .i64 0, .int .i64 0, .int .i64 0, .int .i64 0, .int .i64 0, .int .i64 0, .int .i64 0, .int .i64 0, .int .i64 0, .int .i64 0, .int .i64 0, .int .i64 0, .int .i64 0, .int .i64 0, .int .i64 0, .int .i64 0, .int .i64 0, .int .i64 0, .int .i64 0] 35) = W := ⟨_, rfl⟩
      have hB_15 := (Below.heap_alloc w11 (.cells #[.int .i64 0, .int .i64 0, .int .i64 0, .int .i64 0, .int .i64 0, .int .i64 0, .int .i64 0, .int .i64 0, .int .i64 0, .int .i64 0, .int .i64 0, .int .i64 0, .int .i64 0, .int .i64 0, .int .i64 0, .int .i64 0, .int .i64 0, .int .i64 0, .int .i64 0, .int .i64 0, .int .i64 0, .int .i64 0, .int .i64 0, .int .i64 0, .int .i64 0, .int .i64 0, .int .i64 0, .int .i64 0, .int .i64 0, .int .i64 0, .int .i64 0, .int .i64 0, .int .i64 0, .int .i64 0, .int .i64 0, .int .i64 0, .int .i64 0, .int .i64 0, .int .i64 0, .int .i64 0, .int .i64 0, .int .i64 0, .int .i64 0, .int .i64 0, .int .i64 0, .int .i64 0, .int .i64 0, .int .i64 0, .int .i64 0, .int .i64 0, .int .i64 0, .int .i64 0, .int .i64 0, .int .i64 0, .int .i64 0, .int .i64 0, .int .i64 0, .int .i64 0, .int .i64 0, .int .i64 0, .int .i64 0, .int .i64 0, .int .i64 0, .int .i64 0] 35) w3.heap.size (by show w3.heap.size < w11.heap.size; omega)).trans hB_11
      have hC_15 := (Below.heap_alloc w11 (.cells #[.int .i64 0, .int .i64 0, .int .i64 0, .int .i64 0, .int .i64 0, .int .i64 0, .int .i64 0, .int .i64 0, .int .i64 0, .int .i64 0, .int .i64 0, .int .i64 0, .int .i64 0, .int .i64 0, .int .i64 0, .int .i64 0, .int .i64 0, .int .i64 0, .int .i64 0, .int .i64 0, .int .i64 0, .int .i64 0, .int .i64 0, .int .i64 0, .int .i64 0, .int .i64 0, .int .i64 0, .int .i64 0, .int .i64 0, .int .i64 0, .int .i64 0, .int .i64 0, .int .i64 0, .int .i64 0, .int .i64 0, .int .i64 0, .int .i64 0, .int .i64 0, .int .i64 0, .int .i64 0, .int .i64 0, .int .i64 0, .int .i64 0, .int .i64 0, .int .i64 0, .int .i64 0, .int .i64 0, .int .i64 0, .int .i64 0, .int .i64 0, .int .i64 0, .int .i64 0, .int .i64 0, .int .i64 0, .int .i64 0, .int .i64 0, .int .i64 0, .int .i64 0, .int .i64 0, .int .i64 0, .int .i64 0, .int .i64 0, .int .i64 0, .int .i64 0] 35) w1.heap.size (by show w1.heap.size < w11.heap.size; omega)).trans hC_11
      have hR_15 := (Below.heap_alloc w11 (.cells #[.int .i64 0, .int .i64 0, .int .i64 0, .int .i64 0, .int .i64 0, .int .i64 0, .int .i64 0, .int .i64 0, .int .i64 0, .int .i64 0, .int .i64 0, .int .i64 0, .int .i64 0, .int .i64 0, .int .i64 0, .int .i64 0, .int .i64 0, .int .i64 0, .int .i64 0, .int .i64 0, .int .i64 0, .int .i64 0, .int .i64 0, .int .i64 0, .int .i64 0, .int .i64 0, .int .i64 0, .int .i64 0, .int .i64 0, .int .i64 0, .int .i64 0, .int .i64 0, .int .i64 0, .int .i64 0, .int .i64 0, .int .i64 0, .int .i64 0, .int .i64 0, .int .i64 0, .int .i64 0, .int .i64 0, .int .i64 0, .int .i64 0, .int .i64 0, .int .i64 0, .int .i64 0, .int .i64 0, .int .i64 0, .int .i64 0, .int .i64 0, .int .i64 0, .int .i64 0, .int .i64 0, .int .i64 0, .int .i64 0, .int .i64 0, .int .i64 0, .int .i64 0, .int .i64 0, .int .i64 0, .int .i64 0, .int .i64 0, .int .i64 0, .int .i64 0] 35) (w.heap.size + 1) (by show (w.heap.size + 1) < w11.heap.size; omega)).trans hR_11
      have hN_15 := heap_alloc_new w11 (.cells #[.int .i64 0, .int .i64 0, .int .i64 0, .int .i64 0, .int .i64 0, .int .i64 0, .int .i64 0, .int .i64 0, .int .i64 0, .int .i64 0, .int .i64 0, .int .i64 0, .int .i64 0, .int .i64 0, .int .i64 0, .int .i64 0, .int .i64 0, .int .i64 0, .int .i64 0, .int .i64 0, .int .i64 0, .int .i64 0, .int .i64 0, .int .i64 0, .int .i64 0, .int .i64 0, .int .i64 0, .int .i64 0, .int .i64 0, .int .i64 0, .int .i64 0, .int .i64 0, .int .i64 0, .int .i64 0, .int .i64 0, .int .i64 0, .int .i64 0, .int .i64 0, .int .i64 0, .int .i64 0, .int .i64 0, .int .i64 0, .int .i64 0, .int .i64 0, .int .i64 0, .int .i64 0, .int .i64 0, .int .i64 0, .int .i64 0, .int .i64 0, .int .i64 0, .int .i64 0, .int .i64 0, .int .i64 0, .int .i64 0, .int .i64 0, .int .i64 0, .int .i64 0, .int .i64 0, .int .i64 0, .int .i64 0, .int .i64 0, .int .i64 0, .int .i64 0] 35)
      have hG_15 : w.grownBy w15 none := by rw [← hw15]; exact grown_alloc hG_11 _
      have s15 : w15.heap.size = w11.heap.size + 1 := by rw [← hw15]; simp
      rw [hw15] at hB_15 hC_15 hR_15 hN_15
      rw [hw15]
      clear hw15
      change w15.heap[w11.heap.size]? = _ at hN_15
      refine hK.out _ _ ⟨hB_15, hC_15⟩ ?_
      clear hK K
      try simp only [Act.put, List.setIfInBounds_toArray, List.set_cons_zero, List.set_cons_succ]
      refine anyH_step1 (i := 4) rfl (by kernel_rfl) (fun K hK => ?_)
      go_simp
      refine (eachRow (turnedL (oneWay L zs)) wvL (turned_len _) wv_len (fun k => L (row8 (turnedL (oneWay L zs)) k)) g eg w15 (fun k hk W hW => unhide HP _ (unhide h2 k hk) W)).mono ?_
      rintro e w16 ⟨rfl, g16⟩
      have s16 : w15.heap.size ≤ w16.heap.size := g16.size
      have hB_16 := (g16.block w3.heap.size (by show w3.heap.size < w15.heap.size; omega) (by simp)).trans hB_15
      have hC_16 := (g16.block w1.heap.size (by show w1.heap.size < w15.heap.size; omega) (by simp)).trans hC_15
      have hR_16 := (g16.block (w.heap.size + 1) (by show (w.heap.size + 1) < w15.heap.size; omega) (by simp)).trans hR_15
      have hN_16 := (g16.block w11.heap.size (by show w11.heap.size < w15.heap.size; omega) (by simp)).trans hN_15
      have hG_16 : w.grownBy w16 none := grown_trans hG_15 g16
      have e16 : made (rowsOf fun k => L (row8 (turnedL (oneWay L zs)) k)) = oneWay L (turnedL (oneWay L zs)) := rfl
      rw [e16]
      refine hK.out _ _ ⟨hB_16, hC_16⟩ ?_
      clear hK K
      try simp only [Act.put, List.setIfInBounds_toArray, List.set_cons_zero, List.set_cons_succ]
      refine anyH_step1 (i := 6) rfl (by kernel_rfl) (fun K hK => ?_)
      refine step_store_row (by rfl) 35 _ _ rfl w11.heap.size rfl (sq (oneWay L (turnedL (oneWay L zs)))) rfl #[.int .i64 0, .int .i64 0, .int .i64 0, .int .i64 0, .int .i64 0, .int .i64 0, .int .i64 0, .int .i64 0, .int .i64 0, .int .i64 0, .int .i64 0, .int .i64 0, .int .i64 0, .int .i64 0, .int .i64 0, .int .i64 0, .int .i64 0, .int .i64 0, .int .i64 0, .int .i64 0, .int .i64 0, .int .i64 0, .int .i64 0, .int .i64 0, .int .i64 0, .int .i64 0, .int .i64 0, .int .i64 0, .int .i64 0, .int .i64 0, .int .i64 0, .int .i64 0, .int .i64 0, .int .i64 0, .int .i64 0, .int .i64 0, .int .i64 0, .int .i64 0, .int .i64 0, .int .i64 0, .int .i64 0, .int .i64 0, .int .i64 0, .int .i64 0, .int .i64 0, .int .i64 0, .int .i64 0, .int .i64 0, .int .i64 0, .int .i64 0, .int .i64 0, .int .i64 0, .int .i64 0, .int .i64 0, .int .i64 0, .int .i64 0, .int .i64 0, .int .i64 0, .int .i64 0, .int .i64 0, .int .i64 0, .int .i64 0, .int .i64 0, .int .i64 0] 35 hN_16 (by rw [unhide HO2]; rfl) (by rw [unhide HO2]; kernel_rfl) (sq_one _) ?_
      intro w17 hN_17 g17
      have s17 := g17.size
      have hB_17 := (g17.block w3.heap.size (by omega) (by simp; omega)).trans hB_16
      have hC_17 := (g17.block w1.heap.size (by omega) (by simp; omega)).trans hC_16
      have hR_17 := (g17.block (w.heap.size + 1) (by omega) (by simp; omega)).trans hR_16
      have hG_17 : w.grownBy w17 none := grown_new hG_16 g17 (fun g e => by simp at e; omega)
      refine hK.out _ _ ⟨hB_17, hC_17⟩ ?_
      clear hK K
      try simp only [Act.put]
      refine wpAnyH_done (by kernel_rfl) (NoPanic.normal ?_) _
      have HN := hide hN_17
      have HR := hide hR_17
      have HG := hide hG_17
      clear hN_17 hR_17 hG_17 hB_17 hC_17
      go_wp2_with (refine load_row rfl 35 _ rfl w11.heap.size rfl (sq (oneWay L (turnedL (oneWay L zs)))) 35 (unhide HN) _ Tryd.underlying35 rfl (by rw [unhide HO2]; kernel_rfl) ?_)
      refine (turned (oneWay L (turnedL (oneWay L zs))) (one_len _ _) w17).mono ?_
      rintro e wa ⟨rfl, ga⟩
      have ea : turnedL (oneWay L (turnedL (oneWay L zs))) = twoWays L zs := rfl
      rw [ea]
      clear ea
      have HR2 := hide ((ga.block (w.heap.size + 1) (by omega) (by simp)).trans (unhide HR))
      have HG2 := hide (grown_trans (unhide HG) ga)
      have sa := ga.size
      clear ga HN HR HG
      go_wp2_with fail
      refine (each (twoWays L zs) (turned_len _) (fun p => roundI ((twoWays L zs).getD p 0)) 37 #[] (enters_of Tryd.func37 (by kernel_rfl) rfl) wa (fun k hk W hW => (unscaled _ _ (unhide h3 k hk) rfl W).mono ?_)).mono ?_
      · rintro e w' ⟨rfl, rfl⟩
        exact ⟨rfl, World.grownBy.refl _ _⟩
      · rintro e wb ⟨rfl, gb⟩
        have HR3 := hide ((gb.block (w.heap.size + 1) (by omega) (by simp)).trans (unhide HR2))
        have HG3 := hide (grown_trans (unhide HG2) gb)
        have HMS : Hid ((sq (made (fun p => roundI ((twoWays L zs).getD p 0)))).size = 64) := by unfold Hid; rw [sq_size, made_len]
        clear gb HR2 HG2
        go_wp2_with (refine store_row rfl 35 _ _ rfl (w.heap.size + 1) rfl (sq (made (fun p => roundI ((twoWays L zs).getD p 0)))) rfl (sq zs64) 35 (unhide HR3) (by rw [unhide HMS, sq_size, zs64_len]) (by rw [unhide HMS]; kernel_rfl) (sq_one _) ?_; intro wc hBc gc)
        refine bodyPost_ret (v := .agg (sq (made (fun p => roundI ((twoWays L zs).getD p 0))))) ?_ rfl ⟨rfl, ?_⟩
        · rw [results_c1 rfl]
          exact run_loadVar_row wc _ 35 35 _ (0, 0) _ hBc Tryd.underlying35 rfl (by rw [unhide HMS]; kernel_rfl)
        · exact grown_new (unhide HG3) gc (fun g e => by simp at e; omega)
  · go_simp
    obtain ⟨w18, hw18⟩ : ∃ W, w4.drew.alloc (.cells #[.int .i64 0, .int .i64 0, .int .i64 0, .int .i64 0, .int .i64 0, .int .i64 0, .int .i64 0, .int .i64 0, .int .i64 0, .int .i64 0, .int .i64 0, .int .i64 0, .int .i64 0, .int .i64 0, .int .i64 0, .int .i64 0, .int .i64 0, .int .i64 0, .int .i64 0, .int .i64 0, .int .i64 0, .int .i64 0, .int .i64 0, .int .i64 0, .int .i64 0, .int .i64 0, .int .i64 0, .int .i64 0, .int .i64 0, .int .i64 0, .int .i64 0, .int .i64 0, .int .i64 0, .int .i64 0, .int .i64 0, .int .i64 0, .int .i64 0, .int .i64 0, .int .i64 0, .int .i64 0, .int .i64 0, .int .i64 0, .int .i64 0, .int .i64 0, .int .i64 0, .int .i64 0, .int .i64 0, .int .i64 0, .int .i64 0, .int .i64 0, .int .i64 0, .int .i64 0, .int .i64 0, .int .i64 0, .int .i64 0, .int .i64 0, .int .i64 0, .int .i64 0, .int .i64 0, .int .i64 0, .int .i64 0, .int .i64 0, .int .i64 0, .int .i64 0] 35) = W := ⟨_, rfl⟩
    have hB_18 := (Below.heap_alloc w4.drew (.cells #[.int .i64 0, .int .i64 0, .int .i64 0, .int .i64 0, .int .i64 0, .int .i64 0, .int .i64 0, .int .i64 0, .int .i64 0, .int .i64 0, .int .i64 0, .int .i64 0, .int .i64 0, .int .i64 0, .int .i64 0, .int .i64 0, .int .i64 0, .int .i64 0, .int .i64 0, .int .i64 0, .int .i64 0, .int .i64 0, .int .i64 0, .int .i64 0, .int .i64 0, .int .i64 0, .int .i64 0, .int .i64 0, .int .i64 0, .int .i64 0, .int .i64 0, .int .i64 0, .int .i64 0, .int .i64 0, .int .i64 0, .int .i64 0, .int .i64 0, .int .i64 0, .int .i64 0, .int .i64 0, .int .i64 0, .int .i64 0, .int .i64 0, .int .i64 0, .int .i64 0, .int .i64 0, .int .i64 0, .int .i64 0, .int .i64 0, .int .i64 0, .int .i64 0, .int .i64 0, .int .i64 0, .int .i64 0, .int .i64 0, .int .i64 0, .int .i64 0, .int .i64 0, .int .i64 0, .int .i64 0, .int .i64 0, .int .i64 0, .int .i64 0, .int .i64 0] 35) w3.heap.size (by show w3.heap.size < w4.drew.heap.size; omega)).trans hB_0
    have hC_18 := (Below.heap_alloc w4.drew (.cells #[.int .i64 0, .int .i64 0, .int .i64 0, .int .i64 0, .int .i64 0, .int .i64 0, .int .i64 0, .int .i64 0, .int .i64 0, .int .i64 0, .int .i64 0, .int .i64 0, .int .i64 0, .int .i64 0, .int .i64 0, .int .i64 0, .int .i64 0, .int .i64 0, .int .i64 0, .int .i64 0, .int .i64 0, .int .i64 0, .int .i64 0, .int .i64 0, .int .i64 0, .int .i64 0, .int .i64 0, .int .i64 0, .int .i64 0, .int .i64 0, .int .i64 0, .int .i64 0, .int .i64 0, .int .i64 0, .int .i64 0, .int .i64 0, .int .i64 0, .int .i64 0, .int .i64 0, .int .i64 0, .int .i64 0, .int .i64 0, .int .i64 0, .int .i64 0, .int .i64 0, .int .i64 0, .int .i64 0, .int .i64 0, .int .i64 0, .int .i64 0, .int .i64 0, .int .i64 0, .int .i64 0, .int .i64 0, .int .i64 0, .int .i64 0, .int .i64 0, .int .i64 0, .int .i64 0, .int .i64 0, .int .i64 0, .int .i64 0, .int .i64 0, .int .i64 0] 35) w1.heap.size (by show w1.heap.size < w4.drew.heap.size; omega)).trans hC_0
    have hR_18 := (Below.heap_alloc w4.drew (.cells #[.int .i64 0, .int .i64 0, .int .i64 0, .int .i64 0, .int .i64 0, .int .i64 0, .int .i64 0, .int .i64 0, .int .i64 0, .int .i64 0, .int .i64 0, .int .i64 0, .int .i64 0, .int .i64 0, .int .i64 0, .int .i64 0, .int .i64 0, .int .i64 0, .int .i64 0, .int .i64 0, .int .i64 0, .int .i64 0, .int .i64 0, .int .i64 0, .int .i64 0, .int .i64 0, .int .i64 0, .int .i64 0, .int .i64 0, .int .i64 0, .int .i64 0, .int .i64 0, .int .i64 0, .int .i64 0, .int .i64 0, .int .i64 0, .int .i64 0, .int .i64 0, .int .i64 0, .int .i64 0, .int .i64 0, .int .i64 0, .int .i64 0, .int .i64 0, .int .i64 0, .int .i64 0, .int .i64 0, .int .i64 0, .int .i64 0, .int .i64 0, .int .i64 0, .int .i64 0, .int .i64 0, .int .i64 0, .int .i64 0, .int .i64 0, .int .i64 0, .int .i64 0, .int .i64 0, .int .i64 0, .int .i64 0, .int .i64 0, .int .i64 0, .int .i64 0] 35) (w.heap.size + 1) (by show (w.heap.size + 1) < w4.drew.heap.size; omega)).trans hR_0
    have hN_18 := heap_alloc_new w4.drew (.cells #[.int .i64 0, .int .i64 0, .int .i64 0, .int .i64 0, .int .i64 0, .int .i64 0, .int .i64 0, .int .i64 0, .int .i64 0, .int .i64 0, .int .i64 0, .int .i64 0, .int .i64 0, .int .i64 0, .int .i64 0, .int .i64 0, .int .i64 0, .int .i64 0, .int .i64 0, .int .i64 0, .int .i64 0, .int .i64 0, .int .i64 0, .int .i64 0, .int .i64 0, .int .i64 0, .int .i64 0, .int .i64 0, .int .i64 0, .int .i64 0, .int .i64 0, .int .i64 0, .int .i64 0, .int .i64 0, .int .i64 0, .int .i64 0, .int .i64 0, .int .i64 0, .int .i64 0, .int .i64 0, .int .i64 0, .int .i64 0, .int .i64 0, .int .i64 0, .int .i64 0, .int .i64 0, .int .i64 0, .int .i64 0, .int .i64 0, .int .i64 0, .int .i64 0, .int .i64 0, .int .i64 0, .int .i64 0, .int .i64 0, .int .i64 0, .int .i64 0, .int .i64 0, .int .i64 0, .int .i64 0, .int .i64 0, .int .i64 0, .int .i64 0, .int .i64 0] 35)
    have hG_18 : w.grownBy w18 none := by rw [← hw18]; exact grown_alloc hG_0 _
    have s18 : w18.heap.size = w4.drew.heap.size + 1 := by rw [← hw18]; simp
    rw [hw18] at hB_18 hC_18 hR_18 hN_18
    rw [show (w4.alloc (.cells #[.int .i64 0, .int .i64 0, .int .i64 0, .int .i64 0, .int .i64 0, .int .i64 0, .int .i64 0, .int .i64 0, .int .i64 0, .int .i64 0, .int .i64 0, .int .i64 0, .int .i64 0, .int .i64 0, .int .i64 0, .int .i64 0, .int .i64 0, .int .i64 0, .int .i64 0, .int .i64 0, .int .i64 0, .int .i64 0, .int .i64 0, .int .i64 0, .int .i64 0, .int .i64 0, .int .i64 0, .int .i64 0, .int .i64 0, .int .i64 0, .int .i64 0, .int .i64 0, .int .i64 0, .int .i64 0, .int .i64 0, .int .i64 0, .int .i64 0, .int .i64 0, .int .i64 0, .int .i64 0, .int .i64 0, .int .i64 0, .int .i64 0, .int .i64 0, .int .i64 0, .int .i64 0, .int .i64 0, .int .i64 0, .int .i64 0, .int .i64 0, .int .i64 0, .int .i64 0, .int .i64 0, .int .i64 0, .int .i64 0, .int .i64 0, .int .i64 0, .int .i64 0, .int .i64 0, .int .i64 0, .int .i64 0, .int .i64 0, .int .i64 0, .int .i64 0] 35)).drew = w18 from hw18]
    clear hw18
    change w18.heap[w4.heap.size]? = _ at hN_18
    refine hK.out _ _ ⟨hB_18, hC_18⟩ ?_
    clear hK K
    try simp only [Act.put, List.setIfInBounds_toArray, List.set_cons_zero, List.set_cons_succ]
    refine anyH_step1 (i := 1) rfl (by kernel_rfl) (fun K hK => ?_)
    go_simp
    refine (turned (oneWay L zs) (one_len _ _) w18).mono ?_
    rintro e w19 ⟨rfl, g19⟩
    have s19 : w18.heap.size ≤ w19.heap.size := g19.size
    have hB_19 := (g19.block w3.heap.size (by show w3.heap.size < w18.heap.size; omega) (by simp)).trans hB_18
    have hC_19 := (g19.block w1.heap.size (by show w1.heap.size < w18.heap.size; omega) (by simp)).trans hC_18
    have hR_19 := (g19.block (w.heap.size + 1) (by show (w.heap.size + 1) < w18.heap.size; omega) (by simp)).trans hR_18
    have hN_19 := (g19.block w4.heap.size (by show w4.heap.size < w18.heap.size; omega) (by simp)).trans hN_18
    have hG_19 : w.grownBy w19 none := grown_trans hG_18 g19
    refine hK.out _ _ ⟨hB_19, hC_19⟩ ?_
    clear hK K
    try simp only [Act.put, List.setIfInBounds_toArray, List.set_cons_zero, List.set_cons_succ]
    refine anyH_step1 (i := 4) rfl (by kernel_rfl) (fun K hK => ?_)
    go_simp
    refine (eachRow (turnedL (oneWay L zs)) wvL (turned_len _) wv_len (fun k => L (row8 (turnedL (oneWay L zs)) k)) g eg w19 (fun k hk W hW => unhide HP _ (unhide h2 k hk) W)).mono ?_
    rintro e w20 ⟨rfl, g20⟩
    have s20 : w19.heap.size ≤ w20.heap.size := g20.size
    have hB_20 := (g20.block w3.heap.size (by show w3.heap.size < w19.heap.size; omega) (by simp)).trans hB_19
    have hC_20 := (g20.block w1.heap.size (by show w1.heap.size < w19.heap.size; omega) (by simp)).trans hC_19
    have hR_20 := (g20.block (w.heap.size + 1) (by show (w.heap.size + 1) < w19.heap.size; omega) (by simp)).trans hR_19
    have hN_20 := (g20.block w4.heap.size (by show w4.heap.size < w19.heap.size; omega) (by simp)).trans hN_19
    have hG_20 : w.grownBy w20 none := grown_trans hG_19 g20
    have e20 : made (rowsOf fun k => L (row8 (turnedL (oneWay L zs)) k)) = oneWay L (turnedL (oneWay L zs)) := rfl
    rw [e20]
    refine hK.out _ _ ⟨hB_20, hC_20⟩ ?_
    clear hK K
    try simp only [Act.put, List.setIfInBounds_toArray, List.set_cons_zero, List.set_cons_succ]
    refine anyH_step1 (i := 6) rfl (by kernel_rfl) (fun K hK => ?_)
    refine step_store_row (by rfl) 35 _ _ rfl w4.heap.size rfl (sq (oneWay L (turnedL (oneWay L zs)))) rfl #[.int .i64 0, .int .i64 0, .int .i64 0, .int .i64 0, .int .i64 0, .int .i64 0, .int .i64 0, .int .i64 0, .int .i64 0, .int .i64 0, .int .i64 0, .int .i64 0, .int .i64 0, .int .i64 0, .int .i64 0, .int .i64 0, .int .i64 0, .int .i64 0, .int .i64 0, .int .i64 0, .int .i64 0, .int .i64 0, .int .i64 0, .int .i64 0, .int .i64 0, .int .i64 0, .int .i64 0, .int .i64 0, .int .i64 0, .int .i64 0, .int .i64 0, .int .i64 0, .int .i64 0, .int .i64 0, .int .i64 0, .int .i64 0, .int .i64 0, .int .i64 0, .int .i64 0, .int .i64 0, .int .i64 0, .int .i64 0, .int .i64 0, .int .i64 0, .int .i64 0, .int .i64 0, .int .i64 0, .int .i64 0, .int .i64 0, .int .i64 0, .int .i64 0, .int .i64 0, .int .i64 0, .int .i64 0, .int .i64 0, .int .i64 0, .int .i64 0, .int .i64 0, .int .i64 0, .int .i64 0, .int .i64 0, .int .i64 0, .int .i64 0, .int .i64 0] 35 hN_20 (by rw [unhide HO2]; rfl) (by rw [unhide HO2]; kernel_rfl) (sq_one _) ?_
    intro w21 hN_21 g21
    have s21 := g21.size
    have hB_21 := (g21.block w3.heap.size (by omega) (by simp; omega)).trans hB_20
    have hC_21 := (g21.block w1.heap.size (by omega) (by simp; omega)).trans hC_20
    have hR_21 := (g21.block (w.heap.size + 1) (by omega) (by simp; omega)).trans hR_20
    have hG_21 : w.grownBy w21 none := grown_new hG_20 g21 (fun g e => by simp at e; omega)
    refine hK.out _ _ ⟨hB_21, hC_21⟩ ?_
    clear hK K
    try simp only [Act.put]
    refine wpAnyH_done (by kernel_rfl) (NoPanic.normal ?_) _
    have HN := hide hN_21
    have HR := hide hR_21
    have HG := hide hG_21
    clear hN_21 hR_21 hG_21 hB_21 hC_21
    go_wp2_with (refine load_row rfl 35 _ rfl w4.heap.size rfl (sq (oneWay L (turnedL (oneWay L zs)))) 35 (unhide HN) _ Tryd.underlying35 rfl (by rw [unhide HO2]; kernel_rfl) ?_)
    refine (turned (oneWay L (turnedL (oneWay L zs))) (one_len _ _) w21).mono ?_
    rintro e wa ⟨rfl, ga⟩
    have ea : turnedL (oneWay L (turnedL (oneWay L zs))) = twoWays L zs := rfl
    rw [ea]
    clear ea
    have HR2 := hide ((ga.block (w.heap.size + 1) (by omega) (by simp)).trans (unhide HR))
    have HG2 := hide (grown_trans (unhide HG) ga)
    have sa := ga.size
    clear ga HN HR HG
    go_wp2_with fail
    refine (each (twoWays L zs) (turned_len _) (fun p => roundI ((twoWays L zs).getD p 0)) 37 #[] (enters_of Tryd.func37 (by kernel_rfl) rfl) wa (fun k hk W hW => (unscaled _ _ (unhide h3 k hk) rfl W).mono ?_)).mono ?_
    · rintro e w' ⟨rfl, rfl⟩
      exact ⟨rfl, World.grownBy.refl _ _⟩
    · rintro e wb ⟨rfl, gb⟩
      have HR3 := hide ((gb.block (w.heap.size + 1) (by omega) (by simp)).trans (unhide HR2))
      have HG3 := hide (grown_trans (unhide HG2) gb)
      have HMS : Hid ((sq (made (fun p => roundI ((twoWays L zs).getD p 0)))).size = 64) := by unfold Hid; rw [sq_size, made_len]
      clear gb HR2 HG2
      go_wp2_with (refine store_row rfl 35 _ _ rfl (w.heap.size + 1) rfl (sq (made (fun p => roundI ((twoWays L zs).getD p 0)))) rfl (sq zs64) 35 (unhide HR3) (by rw [unhide HMS, sq_size, zs64_len]) (by rw [unhide HMS]; kernel_rfl) (sq_one _) ?_; intro wc hBc gc)
      refine bodyPost_ret (v := .agg (sq (made (fun p => roundI ((twoWays L zs).getD p 0))))) ?_ rfl ⟨rfl, ?_⟩
      · rw [results_c1 rfl]
        exact run_loadVar_row wc _ 35 35 _ (0, 0) _ hBc Tryd.underlying35 rfl (by rw [unhide HMS]; kernel_rfl)
      · exact grown_new (unhide HG3) gc (fun g e => by simp at e; omega)

end Go.Proofs.YtoeehfjbnbbijabDoor
