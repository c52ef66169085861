/-
  GiveWith, FrameRows, FrameLaws, FrameMarks, CoefBox, LawCoefsOk, CoefIn, CoefWith.
-/
import Derived.Test.YtibgldanmhckiaaMWh

namespace Go.Proofs.Ytibgldanmhckiaa
open Go.RowKit Go.Shelf

theorem upW_le {n d b : Int} (hn : 1 ≤ n) (hd : 1 ≤ d) (h : n ≤ b * d) : upI n d ≤ b := by
  unfold upI
  rw [Int.tdiv_eq_ediv_of_nonneg (by omega)]
  refine Int.le_of_lt_add_one ((Int.ediv_lt_iff_lt_mul (by omega)).2 ?_)
  rw [Int.add_mul, Int.one_mul]
  omega
theorem le_upW {n d : Int} (hn : 1 ≤ n) (hd : 1 ≤ d) : n ≤ upI n d * d := by
  unfold upI
  rw [Int.tdiv_eq_ediv_of_nonneg (by omega)]
  have h1 := Int.mul_ediv_add_emod (n + d - 1) d
  have h2 := Int.emod_lt_of_pos (n + d - 1) (show 0 < d by omega)
  rw [Int.mul_comm] at h1
  omega
/-- The blocks that are needed lie within the units' blocks. -/
theorem neededW_le {wd m s : Int} (hw : 1 ≤ wd) (hm : 1 ≤ m) (hs : 1 ≤ s) : upI (upI (wd * s) m) 8 ≤ upI wd (8 * m) * s := by
  have h1 := le_upW (n := wd) (d := 8 * m) hw (by omega)
  have h0 : 1 ≤ wd * s := by
    have := Int.mul_le_mul hw hs (by omega) (by omega)
    omega
  have h2 : wd * s ≤ upI wd (8 * m) * (8 * m) * s := Int.mul_le_mul_of_nonneg_right h1 (by omega)
  have e : upI wd (8 * m) * (8 * m) * s = upI wd (8 * m) * s * 8 * m := by
    rw [Int.mul_assoc (upI wd (8 * m)) (8 * m) s, Int.mul_comm (8 * m) s, ← Int.mul_assoc, ← Int.mul_assoc]
  have h3 : upI (wd * s) m ≤ upI wd (8 * m) * s * 8 := upW_le h0 hm (by omega)
  exact upW_le (upI_pos h0 hm).1 (by omega) h3

theorem need_in {wd ht : Int} {n : Nat} {C : Nat → Nat → Int} (hg : Geo wd ht n C (mostA 1 C 1 n) (mostA 1 C 2 n)) (c : Nat) (hc : c < n) : nwG wd n C c ≤ bwG wd n C c ∧ nhG ht n C c ≤ bhG ht n C c := by
  have h1 := neededW_le (s := C c 1) hg.wd.1 hg.hb.1 (hg.ch c hc).1
  have h2 := neededW_le (s := C c 2) hg.ht.1 hg.vb.1 (hg.cv c hc).1
  have d := dims_of hg c hc
  rw [d.bw, d.nw] at h1
  rw [d.bh, d.nh] at h2
  omega
theorem cell_first {w : World} {g : Nat} {v : Value} {t : TypeId} (h : w.heap[g]? = some (.cells #[v] t (0, 0))) : w.cell? ⟨g, 0, none⟩ = some v := by rw [cell_of_row w _ 0 _ _ (0, 0) h]; rfl
theorem coefs_set (G : List Gd) (c a b : Nat) (L : List (List Int)) : coefsG (G.set c (a, b, L)) = (coefsG G).set c L := by
  unfold coefsG
  rw [List.map_set]

set_option maxRecDepth 100000 in
set_option maxHeartbeats 3200000 in
theorem giveWith : ImplWith := by
  intro p wd ht rs ao n cap C v Y co ro cl bo bn bc bl w hr hn hY hsz hbl hbn fb HFB Z HZ
  obtain ⟨W0, hW0⟩ : ∃ W0, (((w.alloc (.cells #[.int .i64 p, .int .i64 wd, .int .i64 ht, .int .i64 rs, .slice ao n cap] 26)).alloc (.cells #[v] 29)).alloc (.cells #[.int .i64 co, .int .i64 ro, .int .i64 cl] 31)).alloc (.cells #[.slice none 0 0] 29) = W0 := ⟨_, rfl⟩
  have G0 : w.grownBy W0 none := by rw [← hW0]; exact grown_alloc (grown_alloc (grown_alloc (World.grownBy_alloc _ _ _) _) _) _
  have s0 : W0.heap.size = w.heap.size + 4 := by rw [← hW0]; simp
  have p2 : W0.heap[w.heap.size + 1 + 1]? = some (.cells #[.int .i64 co, .int .i64 ro, .int .i64 cl] 31 (0, 0)) := by
    rw [← hW0, Below.heap_alloc _ _ _ (by simp)]
    have := heap_alloc_new ((w.alloc (.cells #[.int .i64 p, .int .i64 wd, .int .i64 ht, .int .i64 rs, .slice ao n cap] 26)).alloc (.cells #[v] 29)) (.cells #[.int .i64 co, .int .i64 ro, .int .i64 cl] 31)
    simpa using this
  have p3 : W0.heap[w.heap.size + 1 + 1 + 1]? = some (.cells #[.slice none 0 0] 29 (0, 0)) := by
    rw [← hW0]
    have := heap_alloc_new (((w.alloc (.cells #[.int .i64 p, .int .i64 wd, .int .i64 ht, .int .i64 rs, .slice ao n cap] 26)).alloc (.cells #[v] 29)).alloc (.cells #[.int .i64 co, .int .i64 ro, .int .i64 cl] 31)) (.cells #[.slice none 0 0] 29)
    simpa using this
  have HR := hide (hr.grown G0)
  have HYR := hide (RdR.st (RdR.st (RdI.st .i64)) _ _ _ _ hY G0)
  have HBL := hide (hbl.grown G0)
  have HW := hide hW0
  have HG0 := hide G0
  have P2 := hide p2
  have P3 := hide p3
  have HS0 := hide s0
  clear hr hY hW0 G0 p2 p3 hbl s0
  obtain ⟨b, HB⟩ : ∃ b, Hid (coefsOkF fb wd ht n C Y = b) := ⟨_, rfl⟩
  obtain ⟨lb, HLB⟩ : ∃ lb, Hid (levB (-16383) 16383 bl = lb) := ⟨_, rfl⟩
  go_enter Try.func10, Try.ntmps10
  go_wp2_with fail
  rw [unhide HW]
  clear HW
  refine (fixCoefs p wd ht rs ao n cap C v Y W0 (unhide HR) hn (unhide HYR) fb b HFB HB).mono ?_
  rintro e w1 ⟨A, rfl, hA, g1⟩
  obtain ⟨hs, ho⟩ := hA.shape
  have HSA := hide hs
  have HOA := hide ho
  have HB1 := hide (heap_alloc_new w1 (.cells #[.int .i64 0, .int .i64 0, .int .i64 0, .int .i64 0, .int .i64 0, .int .i64 0, .int .i64 0, .int .i64 0, .int .i64 0, .int .i64 0, .int .i64 0, .int .i64 0, .int .i64 0, .int .i64 0, .int .i64 0, .int .i64 0, .int .i64 0, .int .i64 0, .int .i64 0, .int .i64 0, .int .i64 0, .slice none 0 0] 76))
  have G1 := hide g1
  have HST : Hid (∀ w3 : World, w3.heap[w1.heap.size]? = some (.cells A 76 (0, 0)) → (w1.alloc (.cells #[.int .i64 0, .int .i64 0, .int .i64 0, .int .i64 0, .int .i64 0, .int .i64 0, .int .i64 0, .int .i64 0, .int .i64 0, .int .i64 0, .int .i64 0, .int .i64 0, .int .i64 0, .int .i64 0, .int .i64 0, .int .i64 0, .int .i64 0, .int .i64 0, .int .i64 0, .int .i64 0, .int .i64 0, .slice none 0 0] 76)).grownBy w3 (some w1.heap.size) → w1.grownBy w3 none) := by
    intro w3 hB3 g3
    exact grown_new (World.grownBy_alloc w1 (.cells #[.int .i64 0, .int .i64 0, .int .i64 0, .int .i64 0, .int .i64 0, .int .i64 0, .int .i64 0, .int .i64 0, .int .i64 0, .int .i64 0, .int .i64 0, .int .i64 0, .int .i64 0, .int .i64 0, .int .i64 0, .int .i64 0, .int .i64 0, .int .i64 0, .int .i64 0, .int .i64 0, .int .i64 0, .slice none 0 0] 76) none) g3 (fun q e => by simp at e; omega)
  have HA := hide hA
  clear hA hs ho g1
  go_wp2_with (refine store_row rfl 76 _ _ rfl w1.heap.size rfl A rfl #[.int .i64 0, .int .i64 0, .int .i64 0, .int .i64 0, .int .i64 0, .int .i64 0, .int .i64 0, .int .i64 0, .int .i64 0, .int .i64 0, .int .i64 0, .int .i64 0, .int .i64 0, .int .i64 0, .int .i64 0, .int .i64 0, .int .i64 0, .int .i64 0, .int .i64 0, .int .i64 0, .int .i64 0, .slice none 0 0] 76 (unhide HB1) (by rw [unhide HSA]; rfl) (by rw [unhide HSA]; kernel_rfl) (unhide HOA) ?_; intro w3 hB3 g3; have HG13 := hide (unhide HST w3 hB3 g3); have HB3 := hide hB3; clear g3 hB3)
  refine (fixLevels bo bn bc bl w3 ((unhide HBL).grown (grown_trans (unhide G1) (unhide HG13))) lb HLB).mono ?_
  rintro e w4 ⟨⟨ys, rfl, hyl, hyz⟩, g4⟩
  have hb4 := heap_alloc_new w4 (.cells #[.int .i64 0, .int .i64 0, .int .i64 0, .int .i64 0, .int .i64 0, .int .i64 0, .int .i64 0, .int .i64 0, .int .i64 0, .int .i64 0, .int .i64 0, .int .i64 0, .int .i64 0, .int .i64 0, .int .i64 0, .int .i64 0, .int .i64 0, .int .i64 0, .int .i64 0, .int .i64 0, .int .i64 0, .int .i64 0, .int .i64 0, .int .i64 0, .int .i64 0, .int .i64 0, .int .i64 0, .int .i64 0, .int .i64 0, .int .i64 0, .int .i64 0, .int .i64 0, .int .i64 0, .int .i64 0, .int .i64 0, .int .i64 0, .int .i64 0, .int .i64 0, .int .i64 0, .int .i64 0, .int .i64 0, .int .i64 0, .int .i64 0, .int .i64 0, .int .i64 0, .int .i64 0, .int .i64 0, .int .i64 0, .int .i64 0, .int .i64 0, .int .i64 0, .int .i64 0, .int .i64 0, .int .i64 0, .int .i64 0, .int .i64 0, .int .i64 0, .int .i64 0, .int .i64 0, .int .i64 0, .int .i64 0, .int .i64 0, .int .i64 0, .int .i64 0] 80)
  have HB4 := hide hb4
  have HSY : Hid ((sq ys).size = 64) := by unfold Hid; rw [sq_size, hyl]
  have S5 : Hid (∀ w5 : World, w5.heap[w4.heap.size]? = some (.cells (sq ys) 80 (0, 0)) → (w4.alloc (.cells #[.int .i64 0, .int .i64 0, .int .i64 0, .int .i64 0, .int .i64 0, .int .i64 0, .int .i64 0, .int .i64 0, .int .i64 0, .int .i64 0, .int .i64 0, .int .i64 0, .int .i64 0, .int .i64 0, .int .i64 0, .int .i64 0, .int .i64 0, .int .i64 0, .int .i64 0, .int .i64 0, .int .i64 0, .int .i64 0, .int .i64 0, .int .i64 0, .int .i64 0, .int .i64 0, .int .i64 0, .int .i64 0, .int .i64 0, .int .i64 0, .int .i64 0, .int .i64 0, .int .i64 0, .int .i64 0, .int .i64 0, .int .i64 0, .int .i64 0, .int .i64 0, .int .i64 0, .int .i64 0, .int .i64 0, .int .i64 0, .int .i64 0, .int .i64 0, .int .i64 0, .int .i64 0, .int .i64 0, .int .i64 0, .int .i64 0, .int .i64 0, .int .i64 0, .int .i64 0, .int .i64 0, .int .i64 0, .int .i64 0, .int .i64 0, .int .i64 0, .int .i64 0, .int .i64 0, .int .i64 0, .int .i64 0, .int .i64 0, .int .i64 0, .int .i64 0] 80)).grownBy w5 (some w4.heap.size) → w1.grownBy w5 none ∧ W0.grownBy w5 none ∧ w5.heap[w1.heap.size]? = some (.cells A 76 (0, 0)) ∧ w5.heap[w.heap.size + 1 + 1]? = some (.cells #[.int .i64 co, .int .i64 ro, .int .i64 cl] 31 (0, 0)) ∧ w5.heap[w.heap.size + 1 + 1 + 1]? = some (.cells #[.slice none 0 0] 29 (0, 0))) := by
    intro w5 hB5 g5
    have g45 : w4.grownBy w5 none := grown_new (World.grownBy_alloc w4 (.cells #[.int .i64 0, .int .i64 0, .int .i64 0, .int .i64 0, .int .i64 0, .int .i64 0, .int .i64 0, .int .i64 0, .int .i64 0, .int .i64 0, .int .i64 0, .int .i64 0, .int .i64 0, .int .i64 0, .int .i64 0, .int .i64 0, .int .i64 0, .int .i64 0, .int .i64 0, .int .i64 0, .int .i64 0, .int .i64 0, .int .i64 0, .int .i64 0, .int .i64 0, .int .i64 0, .int .i64 0, .int .i64 0, .int .i64 0, .int .i64 0, .int .i64 0, .int .i64 0, .int .i64 0, .int .i64 0, .int .i64 0, .int .i64 0, .int .i64 0, .int .i64 0, .int .i64 0, .int .i64 0, .int .i64 0, .int .i64 0, .int .i64 0, .int .i64 0, .int .i64 0, .int .i64 0, .int .i64 0, .int .i64 0, .int .i64 0, .int .i64 0, .int .i64 0, .int .i64 0, .int .i64 0, .int .i64 0, .int .i64 0, .int .i64 0, .int .i64 0, .int .i64 0, .int .i64 0, .int .i64 0, .int .i64 0, .int .i64 0, .int .i64 0, .int .i64 0] 80) none) g5 (fun q e => by simp at e; omega)
    have g35 := grown_trans g4 g45
    have g15 := grown_trans (unhide HG13) g35
    have g05 := grown_trans (unhide G1) g15
    exact ⟨g15, g05, grown_atT g35 (unhide HB3) (by simp), grown_atT g05 (unhide P2) (by simp), grown_atT g05 (unhide P3) (by simp)⟩
  have HYL := hide hyl
  have HYZ := hide hyz
  clear hb4 hyl hyz g4
  have hand : (b && lb) = false → Z = [] := fun h => by
    rw [← unhide HZ]
    unfold withBlockF
    rw [unhide HB, unhide HLB, h]
    rfl
  have HAND := hide hand
  clear hand
  cases b
  · have hZ := unhide HAND rfl
    go_wp2_with (refine store_row rfl 80 _ _ rfl w4.heap.size rfl (sq ys) rfl #[.int .i64 0, .int .i64 0, .int .i64 0, .int .i64 0, .int .i64 0, .int .i64 0, .int .i64 0, .int .i64 0, .int .i64 0, .int .i64 0, .int .i64 0, .int .i64 0, .int .i64 0, .int .i64 0, .int .i64 0, .int .i64 0, .int .i64 0, .int .i64 0, .int .i64 0, .int .i64 0, .int .i64 0, .int .i64 0, .int .i64 0, .int .i64 0, .int .i64 0, .int .i64 0, .int .i64 0, .int .i64 0, .int .i64 0, .int .i64 0, .int .i64 0, .int .i64 0, .int .i64 0, .int .i64 0, .int .i64 0, .int .i64 0, .int .i64 0, .int .i64 0, .int .i64 0, .int .i64 0, .int .i64 0, .int .i64 0, .int .i64 0, .int .i64 0, .int .i64 0, .int .i64 0, .int .i64 0, .int .i64 0, .int .i64 0, .int .i64 0, .int .i64 0, .int .i64 0, .int .i64 0, .int .i64 0, .int .i64 0, .int .i64 0, .int .i64 0, .int .i64 0, .int .i64 0, .int .i64 0, .int .i64 0, .int .i64 0, .int .i64 0, .int .i64 0] 80 (unhide HB4) (by rw [unhide HSY]; rfl) (by rw [unhide HSY]; kernel_rfl) (sq_one _) ?_; intro w5 hB5 g5; obtain ⟨g15, g05, a5, q5, r5⟩ := unhide S5 w5 hB5 g5; have k5 := cell_first r5; have f5 := frozen_of_row w5 (w.heap.size + 1 + 1 + 1) 0 _ _ r5; have R5 := hide r5; have G05 := hide g05; have G15 := hide g15; have A5 := hide a5; have Q5 := hide q5; have Y5 := hide hB5; clear hB5 g5 g15 g05 a5 q5 r5)
    have hR := heap_setCell_same w5 (w.heap.size + 1 + 1 + 1) 0 _ _ (.slice none 0 0) (unhide R5)
    have s0 := unhide HS0
    refine bodyPost_ret (v := .agg #[.slice none 0 0]) ?_ rfl ⟨_, [], rfl, by rw [hZ]; exact ⟨_, rfl, OwR.nil _ _ _⟩, List.nodup_nil, (fun g hg => by simp at hg), ?_⟩
    · rw [results_c1 rfl]
      exact run_loadVar_row _ _ 29 29 _ (0, 0) _ hR Try.underlying29 rfl (by kernel_rfl)
    · exact grown_new (grown_trans (unhide HG0) (unhide G05)) (grown_set w5 (w.heap.size + 1 + 1 + 1) 0 (.slice none 0 0)) (fun q e => by simp at e; omega)
  · cases lb
    · have hZ := unhide HAND rfl
      go_wp2_with (refine store_row rfl 80 _ _ rfl w4.heap.size rfl (sq ys) rfl #[.int .i64 0, .int .i64 0, .int .i64 0, .int .i64 0, .int .i64 0, .int .i64 0, .int .i64 0, .int .i64 0, .int .i64 0, .int .i64 0, .int .i64 0, .int .i64 0, .int .i64 0, .int .i64 0, .int .i64 0, .int .i64 0, .int .i64 0, .int .i64 0, .int .i64 0, .int .i64 0, .int .i64 0, .int .i64 0, .int .i64 0, .int .i64 0, .int .i64 0, .int .i64 0, .int .i64 0, .int .i64 0, .int .i64 0, .int .i64 0, .int .i64 0, .int .i64 0, .int .i64 0, .int .i64 0, .int .i64 0, .int .i64 0, .int .i64 0, .int .i64 0, .int .i64 0, .int .i64 0, .int .i64 0, .int .i64 0, .int .i64 0, .int .i64 0, .int .i64 0, .int .i64 0, .int .i64 0, .int .i64 0, .int .i64 0, .int .i64 0, .int .i64 0, .int .i64 0, .int .i64 0, .int .i64 0, .int .i64 0, .int .i64 0, .int .i64 0, .int .i64 0, .int .i64 0, .int .i64 0, .int .i64 0, .int .i64 0, .int .i64 0, .int .i64 0] 80 (unhide HB4) (by rw [unhide HSY]; rfl) (by rw [unhide HSY]; kernel_rfl) (sq_one _) ?_; intro w5 hB5 g5; obtain ⟨g15, g05, a5, q5, r5⟩ := unhide S5 w5 hB5 g5; have k5 := cell_first r5; have f5 := frozen_of_row w5 (w.heap.size + 1 + 1 + 1) 0 _ _ r5; have R5 := hide r5; have G05 := hide g05; have G15 := hide g15; have A5 := hide a5; have Q5 := hide q5; have Y5 := hide hB5; clear hB5 g5 g15 g05 a5 q5 r5)
      have hR := heap_setCell_same w5 (w.heap.size + 1 + 1 + 1) 0 _ _ (.slice none 0 0) (unhide R5)
      have s0 := unhide HS0
      refine bodyPost_ret (v := .agg #[.slice none 0 0]) ?_ rfl ⟨_, [], rfl, by rw [hZ]; exact ⟨_, rfl, OwR.nil _ _ _⟩, List.nodup_nil, (fun g hg => by simp at hg), ?_⟩
      · rw [results_c1 rfl]
        exact run_loadVar_row _ _ 29 29 _ (0, 0) _ hR Try.underlying29 rfl (by kernel_rfl)
      · exact grown_new (grown_trans (unhide HG0) (unhide G05)) (grown_set w5 (w.heap.size + 1 + 1 + 1) 0 (.slice none 0 0)) (fun q e => by simp at e; omega)
    · have hfb : fb = true := by
        have h := unhide HB
        unfold coefsOkF at h
        rw [Bool.and_eq_true] at h
        exact h.1
      subst hfb
      have hok : coefsOkB wd ht n C Y = true := by
        have h := unhide HB
        unfold coefsOkF at h
        rw [Bool.and_eq_true] at h
        exact h.2
      obtain ⟨hn4, hYl, hdm⟩ := ok_dims (unhide HFB) hok
      obtain ⟨X, D, gv, F, rfl, hF, hD, hO, hN, hL⟩ := (unhide HA).2 rfl
      have hgC := geo_of (unhide HFB)
      have hgD := hgC.congr hD
      have em : mostA 1 C 1 n = mostA 1 D 1 n := (mostA_congr n hD).symm
      have ev : mostA 1 C 2 n = mostA 1 D 2 n := (mostA_congr n hD).symm
      rw [em, ev] at hgD
      obtain ⟨hb64, _⟩ := lev_at (unhide HLB)
      obtain rfl : ys = bl := unhide HYZ (by rw [← (unhide HBL).1]; exact hb64)
      obtain ⟨t, HT⟩ : ∃ t, Hid ((decide (0 ≤ co ∧ co ≤ (n : Int) - 1) && (decide (0 ≤ ro ∧ ro ≤ (nhG ht n D co.toNat : Int) - 1) && decide (0 ≤ cl ∧ cl ≤ (nwG wd n D co.toNat : Int) - 1))) = t) := ⟨_, rfl⟩
      have SH : Hid (∀ W, Calls Try.prog 42 #[.agg (plV X gv), .agg #[.int .i64 co, .int .i64 ro, .int .i64 cl]] W fun e w' => e = .returned (.bool t) ∧ W.grownBy w' none) := fun W => planesShows X p wd ht rs n D hF hgD gv co ro cl t HT W
      have HO := hide hO
      have HN := hide hN
      have HDM := hide hdm
      have HSX := hide hF.size
      have HLO := hide hL
      have HNI : Hid (∀ c, c < n → nwG wd n C c ≤ bwG wd n C c ∧ nhG ht n C c ≤ bhG ht n C c ∧ nwG wd n D c = nwG wd n C c ∧ nhG ht n D c = nhG ht n C c) := fun c hc => by
        obtain ⟨_, _, e3, e4⟩ := dims_congr (wd := wd) (ht := ht) hD c hc
        obtain ⟨n1, n2⟩ := need_in hgC c hc
        exact ⟨n1, n2, e3, e4⟩
      have HZ2 : Hid (Z = (match placeO wd ht n C co ro cl with | some k => if hiddenI wd ht n C co.toNat ro cl then [] else Y.set co.toNat ((Y.getD co.toNat []).set k ys) | none => [])) := by
        unfold Hid
        rw [← unhide HZ]
        unfold withBlockF
        rw [unhide HB, unhide HLB]
        rfl
      clear hF hO hN hL hdm hgC hgD hD hok HA em ev
      go_wp2_with (first | (refine store_row rfl 80 _ _ rfl w4.heap.size rfl (sq ys) rfl #[.int .i64 0, .int .i64 0, .int .i64 0, .int .i64 0, .int .i64 0, .int .i64 0, .int .i64 0, .int .i64 0, .int .i64 0, .int .i64 0, .int .i64 0, .int .i64 0, .int .i64 0, .int .i64 0, .int .i64 0, .int .i64 0, .int .i64 0, .int .i64 0, .int .i64 0, .int .i64 0, .int .i64 0, .int .i64 0, .int .i64 0, .int .i64 0, .int .i64 0, .int .i64 0, .int .i64 0, .int .i64 0, .int .i64 0, .int .i64 0, .int .i64 0, .int .i64 0, .int .i64 0, .int .i64 0, .int .i64 0, .int .i64 0, .int .i64 0, .int .i64 0, .int .i64 0, .int .i64 0, .int .i64 0, .int .i64 0, .int .i64 0, .int .i64 0, .int .i64 0, .int .i64 0, .int .i64 0, .int .i64 0, .int .i64 0, .int .i64 0, .int .i64 0, .int .i64 0, .int .i64 0, .int .i64 0, .int .i64 0, .int .i64 0, .int .i64 0, .int .i64 0, .int .i64 0, .int .i64 0, .int .i64 0, .int .i64 0, .int .i64 0, .int .i64 0] 80 (unhide HB4) (by rw [unhide HSY]; rfl) (by rw [unhide HSY]; kernel_rfl) (sq_one _) ?_; intro w5 hB5 g5; obtain ⟨g15, g05, a5, q5, r5⟩ := unhide S5 w5 hB5 g5; have k5 := cell_first r5; have f5 := frozen_of_row w5 (w.heap.size + 1 + 1 + 1) 0 _ _ r5; have R5 := hide r5; have G05 := hide g05; have G15 := hide g15; have A5 := hide a5; have Q5 := hide q5; have Y5 := hide hB5; clear hB5 g5 g15 g05 a5 q5 r5) | (first | (refine load_row rfl 76 _ rfl w1.heap.size rfl (plV X gv) 76 (unhide A5) _ Try.underlying76 rfl (by rw [plV_size (unhide HSX)]; kernel_rfl) ?_) | (refine load_row rfl 31 _ rfl (w.heap.size + 1 + 1) rfl _ 31 (unhide Q5) _ Try.underlying31 rfl (by kernel_rfl) ?_) | (refine load_row rfl 80 _ rfl w4.heap.size rfl (sq ys) 80 (unhide Y5) _ Try.underlying80 rfl (by rw [unhide HSY]; kernel_rfl) ?_)))
      refine (unhide SH w5).mono ?_
      rintro e w6 ⟨rfl, g6⟩
      have A6 := hide (grown_atT g6 (unhide A5) (by simp))
      have Q6 := hide (grown_atT g6 (unhide Q5) (by simp))
      have Y6 := hide (grown_atT g6 (unhide Y5) (by simp))
      have r6 := grown_atT g6 (unhide R5) (by simp)
      have k6 := cell_first r6
      have f6 := frozen_of_row w6 (w.heap.size + 1 + 1 + 1) 0 _ _ r6
      have R6 := hide r6
      have G06 := hide (grown_trans (unhide G05) g6)
      have G16 := hide (grown_trans (unhide G15) g6)
      clear r6 g6 k5 f5 SH A5 Q5 Y5 R5 G05 G15 S5 HB4 HST HB1 HB3
      cases t
      · have hZ : Z = [] := by
          rw [unhide HZ2]
          have h := unhide HT
          by_cases h1 : 0 ≤ co ∧ co ≤ (n : Int) - 1
          · obtain ⟨n1, n2, n3, n4⟩ := unhide HNI co.toNat (by omega)
            rw [n3, n4] at h
            by_cases h2 : hiddenI wd ht n C co.toNat ro cl = true
            · rw [h2]
              split <;> rfl
            · have h3 : placeO wd ht n C co ro cl = none := by
                unfold placeO
                rw [if_pos h1, if_neg]
                rintro ⟨h4, h5⟩
                unfold hiddenI at h2
                simp only [Bool.or_eq_true, decide_eq_true_eq, not_or] at h2
                have e1 : decide (0 ≤ co ∧ co ≤ (n : Int) - 1) = true := decide_eq_true h1
                have e2 : decide (0 ≤ ro ∧ ro ≤ (nhG ht n C co.toNat : Int) - 1) = true := decide_eq_true (by omega)
                have e3 : decide (0 ≤ cl ∧ cl ≤ (nwG wd n C co.toNat : Int) - 1) = true := decide_eq_true (by omega)
                rw [e1, e2, e3] at h
                exact absurd h (by decide)
              rw [h3]
          · have h3 : placeO wd ht n C co ro cl = none := by
              unfold placeO
              rw [if_neg h1]
            rw [h3]
        go_wp2
        have hR := heap_setCell_same w6 (w.heap.size + 1 + 1 + 1) 0 _ _ (.slice none 0 0) (unhide R6)
        have s0 := unhide HS0
        refine bodyPost_ret (v := .agg #[.slice none 0 0]) ?_ rfl ⟨_, [], rfl, by rw [hZ]; exact ⟨_, rfl, OwR.nil _ _ _⟩, List.nodup_nil, (fun g hg => by simp at hg), ?_⟩
        · rw [results_c1 rfl]
          exact run_loadVar_row _ _ 29 29 _ (0, 0) _ hR Try.underlying29 rfl (by kernel_rfl)
        · exact grown_new (grown_trans (unhide HG0) (unhide G06)) (grown_set w6 (w.heap.size + 1 + 1 + 1) 0 (.slice none 0 0)) (fun q e => by simp at e; omega)
      · have h := unhide HT
        rw [Bool.and_eq_true, Bool.and_eq_true, decide_eq_true_eq, decide_eq_true_eq, decide_eq_true_eq] at h
        obtain ⟨h1, h2, h3⟩ := h
        obtain ⟨c, rfl⟩ := Int.eq_ofNat_of_zero_le h1.1
        obtain ⟨r, rfl⟩ := Int.eq_ofNat_of_zero_le h2.1
        obtain ⟨l, rfl⟩ := Int.eq_ofNat_of_zero_le h3.1
        have hc : c < n := by omega
        obtain ⟨n1, n2, n3, n4⟩ := unhide HNI c hc
        rw [Int.toNat_natCast, n4] at h2
        rw [Int.toNat_natCast, n3] at h3
        obtain ⟨d1, d2, d3, d4⟩ := unhide HDM c hc
        have hkl : r * bwG wd n C c + l < (Y.getD c []).length := by
          rw [d3, Nat.mul_comm (bwG wd n C c)]
          have hr1 : r + 1 ≤ bhG ht n C c := by omega
          have := Nat.mul_le_mul_right (bwG wd n C c) hr1
          rw [Nat.add_mul, Nat.one_mul] at this
          omega
        have hZ : Z = Y.set c ((Y.getD c []).set (r * bwG wd n C c + l) ys) := by
          rw [unhide HZ2]
          have hp : placeO wd ht n C (c : Int) (r : Int) (l : Int) = some (r * bwG wd n C c + l) := by
            unfold placeO
            rw [if_pos h1, Int.toNat_natCast, if_pos ⟨⟨by omega, by omega⟩, ⟨by omega, by omega⟩⟩, Int.toNat_natCast, Int.toNat_natCast]
          have hh : hiddenI wd ht n C (c : Int).toNat (r : Int) (l : Int) = false := by
            unfold hiddenI
            rw [Int.toNat_natCast, Bool.or_eq_false_iff, decide_eq_false_iff_not, decide_eq_false_iff_not]
            omega
          rw [hp, hh, Int.toNat_natCast]
          rfl
        have PU : Hid (Calls Try.prog 43 #[.agg (plV X gv), .agg #[.int .i64 (c : Int), .int .i64 (r : Int), .int .i64 (l : Int)], .agg (sq ys)] w6 fun e w' => (∃ v, e = .returned v) ∧ ∃ F', OwGr w' gv ((gridsOf wd ht n C Y).set c (bwG wd n C c, bhG ht n C c, (Y.getD c []).set (r * bwG wd n C c + l) ys)) F' ∧ F'.Nodup ∧ (∀ x ∈ F', x ∈ F) ∧ ∃ g ∈ F, Wr [g] w6 w') := by
          have := planesPut X (unhide HSX) gv (gridsOf wd ht n C Y) F w6 (okGr.keep (unhide HO) (unhide G16)) (unhide HN) c r l (r * bwG wd n C c + l) (by rw [gridsOf_len]; exact hc) (by rw [gridsOf_at _ _ _ _ _ _ hc]; dsimp only; omega) (by omega) (by omega) (by unfold Hid; rw [gridsOf_at _ _ _ _ _ _ hc]) (by rw [gridsOf_at _ _ _ _ _ _ hc]; exact hkl) ys hb64
          rw [gridsOf_at _ _ _ _ _ _ hc] at this
          exact this
        have hcf : coefsG ((gridsOf wd ht n C Y).set c (bwG wd n C c, bhG ht n C c, (Y.getD c []).set (r * bwG wd n C c + l) ys)) = Z := by rw [coefs_set, coefs_gridsOf hYl, hZ]
        have hlen : ((gridsOf wd ht n C Y).set c (bwG wd n C c, bhG ht n C c, (Y.getD c []).set (r * bwG wd n C c + l) ys)).length = n := by rw [List.length_set, gridsOf_len]
        have hbd : ∀ c', c' < n → (((gridsOf wd ht n C Y).set c (bwG wd n C c, bhG ht n C c, (Y.getD c []).set (r * bwG wd n C c + l) ys)).getD c' (0, 0, [])).1 ≤ 1024 ∧ (((gridsOf wd ht n C Y).set c (bwG wd n C c, bhG ht n C c, (Y.getD c []).set (r * bwG wd n C c + l) ys)).getD c' (0, 0, [])).2.1 ≤ 1024 ∧ (((gridsOf wd ht n C Y).set c (bwG wd n C c, bhG ht n C c, (Y.getD c []).set (r * bwG wd n C c + l) ys)).getD c' (0, 0, [])).2.2.length ≤ 1000000 := fun c' hc' => by
          obtain ⟨b1, b2, b3, _⟩ := unhide HDM c' hc'
          have hm := Nat.mul_le_mul b1 b2
          by_cases e : c = c'
          · subst e
            have e9 : ((gridsOf wd ht n C Y).set c (bwG wd n C c, bhG ht n C c, (Y.getD c []).set (r * bwG wd n C c + l) ys)).getD c (0, 0, []) = (bwG wd n C c, bhG ht n C c, (Y.getD c []).set (r * bwG wd n C c + l) ys) := by simp [gridsOf_len, hc']
            rw [e9]
            dsimp only
            rw [List.length_set, b3]
            omega
          · have e9 : ((gridsOf wd ht n C Y).set c (bwG wd n C c, bhG ht n C c, (Y.getD c []).set (r * bwG wd n C c + l) ys)).getD c' (0, 0, []) = (gridsOf wd ht n C Y).getD c' (0, 0, []) := by simp [e]
            rw [e9, gridsOf_at _ _ _ _ _ _ hc']
            dsimp only
            rw [b3]
            omega
        generalize (gridsOf wd ht n C Y).set c (bwG wd n C c, bhG ht n C c, (Y.getD c []).set (r * bwG wd n C c + l) ys) = G' at *
        have HCF := hide hcf
        have HLN' := hide hlen
        have HBD := hide hbd
        clear hZ hkl d1 d2 d3 d4 h1 h2 h3 HT HZ HZ2 hcf hlen hbd n1 n2 n3 n4 k6 f6
        go_wp2_with (first | (refine load_row rfl 76 _ rfl w1.heap.size rfl (plV X gv) 76 (unhide A6) _ Try.underlying76 rfl (by rw [plV_size (unhide HSX)]; kernel_rfl) ?_) | (refine load_row rfl 31 _ rfl (w.heap.size + 1 + 1) rfl _ 31 (unhide Q6) _ Try.underlying31 rfl (by kernel_rfl) ?_) | (refine load_row rfl 80 _ rfl w4.heap.size rfl (sq ys) 80 (unhide Y6) _ Try.underlying80 rfl (by rw [unhide HSY]; kernel_rfl) ?_))
        refine (unhide PU).mono ?_
        rintro e w7 ⟨⟨v7, rfl⟩, F7, o7, n7, m7, g, hgF, w7r⟩
        have hg1 := unhide HLO g hgF
        have hgl := okGr.lt _ _ _ _ (unhide HO) g hgF
        have hs0 := unhide HS0
        have hs1 := (unhide G1).size
        have h06 := (unhide G06).size
        have hw16 := (unhide G16).size
        have hb6 : w1.heap.size < w6.heap.size := (Array.getElem?_eq_some_iff.1 (unhide A6)).1
        have a7 : w7.heap[w1.heap.size]? = some (.cells (plV X gv) 76 (0, 0)) := (w7r.block _ hb6 (fun e => by simp at e; omega)).trans (unhide A6)
        have r7 : w7.heap[w.heap.size + 1 + 1 + 1]? = some (.cells #[.slice none 0 0] 29 (0, 0)) := (w7r.block _ (by omega) (fun e => by simp at e; omega)).trans (unhide R6)
        have G07 : Hid (W0.grownBy w7 none) := Wr.new (unhide G06) w7r (fun x hx => by simp at hx; omega)
        have A7 := hide a7
        have R7 := hide r7
        have CO : Hid (Calls Try.prog 44 #[.agg (plV X gv)] w7 fun e w' => ∃ u F', e = .returned u ∧ OwCo w' u Z F' ∧ F'.Nodup ∧ (∀ g ∈ F', w7.heap.size ≤ g) ∧ w7.grownBy w' none) := by
          unfold Hid
          rw [← unhide HCF]
          exact planesCoefs X (unhide HSX) gv G' F7 w7 o7 n7 (by rw [unhide HLN']; exact hn4) (fun c' hc' => unhide HBD c' (by rw [unhide HLN'] at hc'; exact hc'))
        have hs7 := (unhide G07).size
        clear o7 n7 m7 w7r a7 r7 PU A6 R6 hg1 hgl hs1 h06 hw16 hb6 hs0
        go_wp2_with (refine load_row rfl 76 _ rfl w1.heap.size rfl (plV X gv) 76 (unhide A7) _ Try.underlying76 rfl (by rw [plV_size (unhide HSX)]; kernel_rfl) ?_)
        refine (unhide CO).mono ?_
        rintro e w8 ⟨u, F8, rfl, ⟨cv, rfl, o8⟩, n8, l8, g8⟩
        obtain ⟨vo, vc, rfl⟩ := o8.form
        have G08 := hide (grown_trans (unhide G07) g8)
        have r8 := grown_atT g8 (unhide R7) (by simp)
        have k8 := cell_first r8
        have f8 := frozen_of_row w8 (w.heap.size + 1 + 1 + 1) 0 _ _ r8
        obtain ⟨ln, HLN⟩ : ∃ ln, Hid (Z.length = ln) := ⟨_, rfl⟩
        rw [unhide HLN] at o8 ⊢
        have gs := grown_set w8 (w.heap.size + 1 + 1 + 1) 0 (.slice vo ln vc)
        have HR9 := hide (heap_setCell_same w8 (w.heap.size + 1 + 1 + 1) 0 _ _ (.slice vo ln vc) r8)
        have O8 := hide o8
        have L8 := hide l8
        have N8 := hide n8
        clear CO o8 l8 n8 g8 r8
        go_wp2
        generalize w8.setCell ⟨w.heap.size + 1 + 1 + 1, 0, none⟩ (.slice vo ln vc) = w9 at *
        have s0 := unhide HS0
        refine bodyPost_ret (v := .agg #[.slice vo ln vc]) ?_ rfl ⟨_, F8, rfl, ⟨_, rfl, ?_⟩, unhide N8, fun x hx => by have := unhide L8 x hx; omega, ?_⟩
        · rw [results_c1 rfl]
          exact run_loadVar_row w9 _ 29 29 _ (0, 0) _ (unhide HR9) Try.underlying29 rfl (by kernel_rfl)
        · exact ok3.wr (unhide O8) (Wr.ofRow (F := [w.heap.size + 1 + 1 + 1]) gs (fun q e => by have e9 := Option.some.inj e; simp [e9])) (fun x hx e => by simp at e; have := unhide L8 x hx; omega)
        · exact grown_new (grown_trans (unhide HG0) (unhide G08)) gs (fun q e => by simp at e; omega)

end Go.Proofs.Ytibgldanmhckiaa

namespace Go.Proofs.Ytibgldanmhckiaa
open Go.RowKit

theorem own_rdC {w : World} {base : Nat} {e : TypeId} {ao : Option Addr} {n cap : Nat} {C : Nat → Nat → Int} (h : w.ownsRow base e 4 (.slice ao n cap) n (rowsK n 4 (compCells C))) : RdC w ao n C := by
  intro i hi
  obtain ⟨g, rfl, _, _⟩ := own_at h (by omega)
  refine ⟨g, 0, rfl, fun j hj => ?_⟩
  rw [Nat.zero_add, h.cellAt _ (place_lt hi hj), rowsK_get n 4 _ i j hi hj]
  rfl

theorem Try.info70 : (Try.prog.info? 70).map (fun i => (i.zero, i.size, i.bytes)) = some (some (.agg #[.int .i64 0, .int .i64 0, .int .i64 0, .int .i64 0]), 4, 32) := by kernel_rfl

set_option maxHeartbeats 800000 in
theorem toComp (c0 c1 c2 c3 : Int) (w : World) :
    Calls Try.prog 92 #[.agg #[.int .i64 c0, .int .i64 c1, .int .i64 c2, .int .i64 c3]] w fun e w' => e = .returned (.agg #[.int .i64 c0, .int .i64 c1, .int .i64 c2, .int .i64 c3]) ∧ w.grownBy w' none := by
  go_enter Try.func92, Try.ntmps92
  go_wp2
  refine bodyPost_ret (v := .agg #[.int .i64 c0, .int .i64 c1, .int .i64 c2, .int .i64 c3]) (by simp [results, Try.results92, go_sem]) rfl ⟨rfl, ?_⟩
  exact grown_alloc (grown_alloc (grown_alloc (World.grownBy.refl _ _) _) _) _

/-- The copy's cells behind k rounds. -/
def compPart (C : Nat → Nat → Int) (k : Nat) : Nat → Nat → Value := fun i j => if i < k then .int .i64 (C i j) else .int .i64 0
theorem compPart_set (C : Nat → Nat → Int) (n k : Nat) (c0 c1 c2 c3 : Int) (h0 : C k 0 = c0) (h1 : C k 1 = c1) (h2 : C k 2 = c2) (h3 : C k 3 = c3) :
    ((((rowsK n 4 (compPart C k)).set (k * 4) (.int .i64 c0)).set (k * 4 + 1) (.int .i64 c1)).set (k * 4 + 2) (.int .i64 c2)).set (k * 4 + 3) (.int .i64 c3) = rowsK n 4 (compPart C (k + 1)) := by
  have e0 := rowsK_set n 4 (compPart C k) k 0 (.int .i64 c0) (by omega)
  rw [Nat.add_zero] at e0
  rw [e0, rowsK_set _ _ _ k 1 _ (by omega), rowsK_set _ _ _ k 2 _ (by omega), rowsK_set _ _ _ k 3 _ (by omega)]
  apply rowsK_congr
  intro i j _ hj
  have hj4 : j = 0 ∨ j = 1 ∨ j = 2 ∨ j = 3 := by omega
  by_cases e1 : i = k
  · subst e1
    rcases hj4 with rfl | rfl | rfl | rfl <;> simp [compPart, h0, h1, h2, h3]
  · by_cases e2 : i < k
    · rcases hj4 with rfl | rfl | rfl | rfl <;> simp [compPart, e1, e2, show i < k + 1 by omega]
    · rcases hj4 with rfl | rfl | rfl | rfl <;> simp [compPart, e1, e2, show ¬ i < k + 1 by omega]

set_option maxHeartbeats 1600000 in
theorem toCompS (ao : Option Addr) (n cap : Nat) (C : Nat → Nat → Int) (w : World) (hr : RdC w ao n C) (hn : n ≤ 4194304) :
    Calls Try.prog 60 #[.slice ao n cap] w fun e w' => e = .returned (.slice (some ⟨w.heap.size, 0, none⟩) n n) ∧
      w'.ownsRow w.heap.size 70 4 (.slice (some ⟨w.heap.size, 0, none⟩) n n) n (rowsK n 4 (compCells C)) ∧ w.grownBy w' none := by
  obtain ⟨i0, hi, hz0, hz1, hz2⟩ := info_parts Try.info70
  have HR := hide hr
  clear hr
  go_enter Try.func60, Try.ntmps60
  go_wp2_with (at_make; refine wpList_make_full _ rfl _ _ 24 rfl w.heap.size 70 i0 (.agg #[.int .i64 0, .int .i64 0, .int .i64 0, .int .i64 0]) 4 Try.underlying24 hi hz0 hz1 .i64 .i64 _ _ n rfl rfl rfl rfl (by rw [hz2]; omega) (by unfold maxLen; omega) (Nat.le_refl _) ?_)
  intro w1 hown hgrow
  have hown0 : w1.ownsRow w.heap.size 70 4 (.slice (some ⟨w.heap.size, 0, none⟩) n n) n (rowsK n 4 (compPart C 0)) := by
    have e := madeK #[.int .i64 0, .int .i64 0, .int .i64 0, .int .i64 0] n (by decide)
    have e2 : rowsK n 4 (compPart C 0) = (madeCells #[Value.int .i64 0, .int .i64 0, .int .i64 0, .int .i64 0] (n * 4)).toList := by
      rw [show (n * 4) = n * (#[Value.int .i64 0, .int .i64 0, .int .i64 0, .int .i64 0] : Array Value).size from rfl, e]
      apply rowsK_congr
      intro i j _ hj
      have : j = 0 ∨ j = 1 ∨ j = 2 ∨ j = 3 := by have : j < 4 := hj; omega
      rcases this with rfl | rfl | rfl | rfl <;> simp [compPart]
    rw [e2]; exact hown
  clear hown hi hz0 hz1 hz2
  go_wp2
  go_loopw [4] (fun i wr => ∃ k : Nat, k ≤ n ∧ i = .int .i64 k ∧ wr.ownsRow w.heap.size 70 4 (.slice (some ⟨w.heap.size, 0, none⟩) n n) n (rowsK n 4 (compPart C k)) ∧ w.grownBy wr none) (fun i _ => n - (intOf i).toNat)
  case atStart => exact ⟨0, Nat.zero_le _, rfl, hown0, hgrow⟩
  case round =>
    obtain ⟨k, hk, rfl, hok, hgk⟩ := hrel
    clear hown0 hgrow
    by_cases hlt : k < n
    · obtain ⟨b, off, rfl, hc⟩ := (unhide HR) k hlt
      have hc' := fun j hj => hgk.cell (hc j hj) (by simp)
      have h0 := hc' 0 (by omega)
      have h1 := hc' 1 (by omega)
      have h2 := hc' 2 (by omega)
      have h3 := hc' 3 (by omega)
      rw [Nat.add_zero] at h0
      clear hc hc'
      have HSET := hide (compPart_set C n k (C k 0) (C k 1) (C k 2) (C k 3) rfl rfl rfl rfl)
      generalize C k 0 = c0 at *
      generalize C k 1 = c1 at *
      generalize C k 2 = c2 at *
      generalize C k 3 = c3 at *
      go_wp2_with fail
      refine (toComp c0 c1 c2 c3 wr).mono ?_
      rintro e w2 ⟨rfl, g2⟩
      have hok2 := own_grown hok g2
      have hG2 := grown_trans hgk g2
      have f0 := hok2.frozenAt (k * 4)
      have f1 := hok2.frozenAt (k * 4 + 1)
      have f2 := hok2.frozenAt (k * 4 + 2)
      have f3 := hok2.frozenAt (k * 4 + 3)
      have hold : ∀ j, j < n * 4 → ∃ u, w2.cell? ⟨w.heap.size, j, none⟩ = some u := fun j hj => by rw [hok2.cellAt j hj]; exact ⟨_, List.getElem?_eq_getElem (by rw [hok2.1]; omega)⟩
      obtain ⟨v0, hv0⟩ := hold (k * 4) (by omega)
      obtain ⟨v1, hv1⟩ := hold (k * 4 + 1) (by omega)
      obtain ⟨v2, hv2⟩ := hold (k * 4 + 2) (by omega)
      obtain ⟨v3, hv3⟩ := hold (k * 4 + 3) (by omega)
      have s0 := hok2.stored (k * 4) (.int .i64 c0)
      have s1 := s0.1.stored (k * 4 + 1) (.int .i64 c1)
      have s2 := s1.1.stored (k * 4 + 2) (.int .i64 c2)
      have s3 := s2.1.stored (k * 4 + 3) (.int .i64 c3)
      have hg' := grown_new hG2 (grown_trans (grown_trans (grown_trans s0.2 s1.2) s2.2) s3.2) (by intro g e; simp at e; omega)
      have HS := hide s3.1
      rw [unhide HSET] at HS
      have HG := hide hg'
      clear s0 s1 s2 s3 hok hok2 hgk hG2 hold g2 h0 h1 h2 h3 hg' HSET
      go_wp2
      go_roundw
      case rel => exact ⟨k + 1, by omega, by go_num, unhide HS, unhide HG⟩
      case measure => simp [intOf]; omega
    · have hkn : k = n := by omega
      subst hkn
      go_wp2
      go_ret
      refine ⟨rfl, ?_, hgk⟩
      have e : rowsK k 4 (compCells C) = rowsK k 4 (compPart C k) := rowsK_congr (fun i j hi' _ => by unfold compPart compCells; rw [if_pos hi'])
      rw [e]; exact hok

theorem szCompS (ao : Option Addr) (n cap : Nat) (left r : Int) (w : World) (h0 : 0 ≤ left) (h1 : left ≤ 1048576) (hm : n ≤ 9223372036854775807) (hr : Hid ((if (n : Int) ≤ left then left - n else -1) = r)) :
    Calls Try.prog 59 #[.slice ao n cap, .int .i64 left] w fun e w' => e = .returned (.int .i64 r) ∧ w = w' := by
  by_cases h : (n : Int) ≤ left
  · have e : left - n = r := by have := unhide hr; rwa [if_pos h] at this
    subst e
    clear hr
    have hn : ¬ (left - (n : Int) < 0) := by omega
    go_enter Try.func59, Try.ntmps59
    go_wp2
    go_ret
    exact ⟨rfl, rfl⟩
  · have e : -1 = r := by have := unhide hr; rwa [if_neg h] at this
    subst e
    clear hr
    have hn : left - (n : Int) < 0 := by omega
    go_enter Try.func59, Try.ntmps59
    go_wp2
    go_ret
    exact ⟨rfl, rfl⟩

theorem szFrame (p wd ht rs : Int) (ao : Option Addr) (n cap : Nat) (left r : Int) (w : World) (h0 : 0 ≤ left) (h1 : left ≤ 1048576) (hm : n ≤ 9223372036854775807) (hr : Hid ((if (n : Int) ≤ left then left - n else -1) = r)) :
    Calls Try.prog 20 #[.agg #[.int .i64 p, .int .i64 wd, .int .i64 ht, .int .i64 rs, .slice ao n cap], .int .i64 left] w fun e w' => e = .returned (.int .i64 r) ∧ w.grownBy w' none := by
  by_cases h : (n : Int) ≤ left
  · have e : left - n = r := by have := unhide hr; rwa [if_pos h] at this
    subst e
    have hn : ¬ (left - (n : Int) < 0) := by omega
    go_enter Try.func20, Try.ntmps20
    go_wp2_with fail
    refine (szCompS ao n cap left _ _ h0 h1 hm hr).mono ?_
    rintro e w1 ⟨rfl, rfl⟩
    go_wp2
    go_ret
    exact ⟨rfl, grown_alloc (World.grownBy.refl _ _) _⟩
  · have e : -1 = r := by have := unhide hr; rwa [if_neg h] at this
    subst e
    go_enter Try.func20, Try.ntmps20
    go_wp2_with fail
    refine (szCompS ao n cap left _ _ h0 h1 hm hr).mono ?_
    rintro e w1 ⟨rfl, rfl⟩
    go_wp2
    go_ret
    exact ⟨rfl, grown_alloc (World.grownBy.refl _ _) _⟩

set_option maxHeartbeats 800000 in
theorem eqComp (c0 c1 c2 c3 : Int) (w : World) :
    Calls Try.prog 94 #[.agg #[.int .i64 c0, .int .i64 c1, .int .i64 c2, .int .i64 c3], .agg #[.int .i64 c0, .int .i64 c1, .int .i64 c2, .int .i64 c3]] w fun e w' => e = .returned (.bool true) ∧ w.grownBy w' none := by
  have h0 : (c0 != c0) = false := by simp
  have h1 : (c1 != c1) = false := by simp
  have h2 : (c2 != c2) = false := by simp
  have h3 : (c3 != c3) = false := by simp
  go_enter Try.func94, Try.ntmps94
  go_wp2
  go_ret
  exact ⟨rfl, grown_alloc (grown_alloc (World.grownBy.refl _ _) _) _⟩

set_option maxHeartbeats 1600000 in
theorem eqCompS (ao bo : Option Addr) (n cap cap' : Nat) (C : Nat → Nat → Int) (w : World) (hx : RdC w ao n C) (hy : RdC w bo n C) (hn : n ≤ 4194304) :
    Calls Try.prog 62 #[.slice ao n cap, .slice bo n cap'] w fun e w' => e = .returned (.bool true) ∧ w.grownBy w' none := by
  have HX := hide hx
  have HY := hide hy
  clear hx hy
  have hne : ((n : Int) != n) = false := by simp
  go_enter Try.func62, Try.ntmps62
  go_wp2
  go_loopw [5] (fun i wr => ∃ k : Nat, k ≤ n ∧ i = .int .i64 k ∧ w.grownBy wr none) (fun i _ => n - (intOf i).toNat)
  case atStart => exact ⟨0, Nat.zero_le _, rfl, World.grownBy.refl _ _⟩
  case round =>
    obtain ⟨k, hk, rfl, hgk⟩ := hrel
    by_cases hlt : k < n
    · obtain ⟨b, off, rfl, hc⟩ := (unhide HX) k hlt
      obtain ⟨b', off', rfl, hd⟩ := (unhide HY) k hlt
      have hc' := fun j hj => hgk.cell (hc j hj) (by simp)
      have hd' := fun j hj => hgk.cell (hd j hj) (by simp)
      have a0 := hc' 0 (by omega)
      have a1 := hc' 1 (by omega)
      have a2 := hc' 2 (by omega)
      have a3 := hc' 3 (by omega)
      have b0 := hd' 0 (by omega)
      have b1 := hd' 1 (by omega)
      have b2 := hd' 2 (by omega)
      have b3 := hd' 3 (by omega)
      rw [Nat.add_zero] at a0 b0
      clear hc hc' hd hd'
      generalize C k 0 = c0 at *
      generalize C k 1 = c1 at *
      generalize C k 2 = c2 at *
      generalize C k 3 = c3 at *
      have hik : (k : Int) < (n : Int) := by omega
      go_wp2
      go_region_with (go_at_call 94; refine (eqComp c0 c1 c2 c3 _).mono ?_; rintro e w2 ⟨rfl, g2⟩)
      all_goals
        go_wp2
        go_roundw
        case rel => exact ⟨k + 1, by omega, by go_num, grown_trans (grown_drew hgk) g2⟩
        case measure => simp [intOf]; omega
    · go_wp2
      go_ret
      exact ⟨rfl, hgk⟩

set_option maxHeartbeats 1600000 in
theorem eqFrame (p wd ht rs : Int) (ao bo : Option Addr) (n cap cap' : Nat) (C : Nat → Nat → Int) (w : World) (hx : RdC w ao n C) (hy : RdC w bo n C) (hn : n ≤ 4194304) :
    Calls Try.prog 23 #[.agg #[.int .i64 p, .int .i64 wd, .int .i64 ht, .int .i64 rs, .slice ao n cap], .agg #[.int .i64 p, .int .i64 wd, .int .i64 ht, .int .i64 rs, .slice bo n cap']] w fun e w' => e = .returned (.bool true) ∧ w.grownBy w' none := by
  have HX := hide hx
  have HY := hide hy
  clear hx hy
  have h0 : (p != p) = false := by simp
  have h1 : (wd != wd) = false := by simp
  have h2 : (ht != ht) = false := by simp
  have h3 : (rs != rs) = false := by simp
  have G : Hid (w.grownBy ((w.alloc (.cells #[.int .i64 p, .int .i64 wd, .int .i64 ht, .int .i64 rs, .slice ao n cap] 26)).alloc (.cells #[.int .i64 p, .int .i64 wd, .int .i64 ht, .int .i64 rs, .slice bo n cap'] 26)) none) := grown_alloc (grown_alloc (World.grownBy.refl _ _) _) _
  go_enter Try.func23, Try.ntmps23
  go_wp2_with fail
  refine (eqCompS ao bo n cap cap' C _ ((unhide HX).grown (unhide G)) ((unhide HY).grown (unhide G)) hn).mono ?_
  rintro e w1 ⟨rfl, g1⟩
  go_wp2
  go_ret
  exact ⟨rfl, grown_trans (unhide G) g1⟩

end Go.Proofs.Ytibgldanmhckiaa

namespace Go.Proofs.Ytibgldanmhckiaa
open Go.RowKit

theorem frameCells {w : World} {g : Nat} {a b c d v : Value} {t : TypeId} (hb : w.heap[g]? = some (.cells #[a, b, c, d, v] t (0, 0))) :
    w.cell? ⟨g, 0, none⟩ = some a ∧ w.cell? ⟨g, 1, none⟩ = some b ∧ w.cell? ⟨g, 2, none⟩ = some c ∧ w.cell? ⟨g, 3, none⟩ = some d ∧ w.cell? ⟨g, 4, none⟩ = some v :=
  ⟨by rw [cell_of_row w _ 0 _ _ (0, 0) hb]; rfl, by rw [cell_of_row w _ 1 _ _ (0, 0) hb]; rfl, by rw [cell_of_row w _ 2 _ _ (0, 0) hb]; rfl, by rw [cell_of_row w _ 3 _ _ (0, 0) hb]; rfl, by rw [cell_of_row w _ 4 _ _ (0, 0) hb]; rfl⟩

set_option maxHeartbeats 1600000 in
theorem toFrame (p wd ht rs : Int) (ao : Option Addr) (n cap : Nat) (C : Nat → Nat → Int) (w : World) (hr : RdC w ao n C) (hn : n ≤ 4194304) :
    Calls Try.prog 21 #[.agg #[.int .i64 p, .int .i64 wd, .int .i64 ht, .int .i64 rs, .slice ao n cap]] w fun e w' => ∃ g, e = .returned (.agg #[.int .i64 p, .int .i64 wd, .int .i64 ht, .int .i64 rs, .slice (some ⟨g, 0, none⟩) n n]) ∧
      w'.ownsRow w.heap.size 70 4 (.slice (some ⟨g, 0, none⟩) n n) n (rowsK n 4 (compCells C)) ∧ w.grownBy w' none := by
  have HR := hide hr
  clear hr
  obtain ⟨W3, hW3⟩ : ∃ W3, (((w.alloc (.cells #[.int .i64 p, .int .i64 wd, .int .i64 ht, .int .i64 rs, .slice ao n cap] 46)).alloc (.cells #[.int .i64 0, .int .i64 0, .int .i64 0, .int .i64 0, .slice none 0 0] 26)).alloc (.cells #[.int .i64 p, .int .i64 wd, .int .i64 ht, .int .i64 rs, .slice none 0 0] 26)) = W3 := ⟨_, rfl⟩
  have G0 : w.grownBy W3 none := by rw [← hW3]; exact grown_alloc (grown_alloc (grown_alloc (World.grownBy.refl _ _) _) _) _
  have b1 : W3.heap[w.heap.size + 1]? = some (.cells #[.int .i64 0, .int .i64 0, .int .i64 0, .int .i64 0, .slice none 0 0] 26 (0, 0)) := by
    rw [← hW3, Below.heap_alloc _ _ _ (by simp)]
    have := heap_alloc_new (w.alloc (.cells #[.int .i64 p, .int .i64 wd, .int .i64 ht, .int .i64 rs, .slice ao n cap] 46)) (.cells #[.int .i64 0, .int .i64 0, .int .i64 0, .int .i64 0, .slice none 0 0] 26)
    simpa using this
  have b2 : W3.heap[w.heap.size + 1 + 1]? = some (.cells #[.int .i64 p, .int .i64 wd, .int .i64 ht, .int .i64 rs, .slice none 0 0] 26 (0, 0)) := by
    rw [← hW3]
    have := heap_alloc_new ((w.alloc (.cells #[.int .i64 p, .int .i64 wd, .int .i64 ht, .int .i64 rs, .slice ao n cap] 46)).alloc (.cells #[.int .i64 0, .int .i64 0, .int .i64 0, .int .i64 0, .slice none 0 0] 26)) (.cells #[.int .i64 p, .int .i64 wd, .int .i64 ht, .int .i64 rs, .slice none 0 0] 26)
    simpa using this
  have hsz : W3.heap.size = w.heap.size + 3 := by rw [← hW3]; simp
  have HW := hide hW3
  have B1 := hide b1
  have B2 := hide b2
  have HSZ := hide hsz
  have HG0 := hide G0
  clear hW3 b1 b2 hsz G0
  go_enter Try.func21, Try.ntmps21
  go_wp2_with fail
  rw [unhide HW]
  refine (toCompS ao n cap C W3 ((unhide HR).grown (unhide HG0)) hn).mono ?_
  rintro e w1 ⟨rfl, o1, g1⟩
  have G1 := grown_trans (unhide HG0) g1
  have hz := unhide HSZ
  have e1 := (g1.block (w.heap.size + 1) (by omega) (by simp)).trans (unhide B1)
  have e2 := (g1.block (w.heap.size + 1 + 1) (by omega) (by simp)).trans (unhide B2)
  have hge : w.heap.size + 3 ≤ W3.heap.size := by omega
  have O1 := hide (own_base o1 (show w.heap.size ≤ W3.heap.size by omega))
  have HG1 := hide G1
  clear HW hz HSZ B1 B2 HG0 HR G1 o1 g1
  generalize W3.heap.size = gx at *
  have c0 : w1.cell? ⟨w.heap.size + 1 + 1, 0, none⟩ = some (.int .i64 p) := by rw [cell_of_row w1 _ 0 _ _ (0, 0) e2]; rfl
  have c1 : w1.cell? ⟨w.heap.size + 1 + 1, 1, none⟩ = some (.int .i64 wd) := by rw [cell_of_row w1 _ 1 _ _ (0, 0) e2]; rfl
  have c2 : w1.cell? ⟨w.heap.size + 1 + 1, 2, none⟩ = some (.int .i64 ht) := by rw [cell_of_row w1 _ 2 _ _ (0, 0) e2]; rfl
  have c3 : w1.cell? ⟨w.heap.size + 1 + 1, 3, none⟩ = some (.int .i64 rs) := by rw [cell_of_row w1 _ 3 _ _ (0, 0) e2]; rfl
  have c4 : w1.cell? ⟨w.heap.size + 1 + 1, 4, none⟩ = some (.slice none 0 0) := by rw [cell_of_row w1 _ 4 _ _ (0, 0) e2]; rfl
  have f4 : w1.frozen? ⟨w.heap.size + 1 + 1, 4, none⟩ = false := frozen_of_row w1 _ 4 _ _ e2
  have d0 : w1.cell? ⟨w.heap.size + 1, 0, none⟩ = some (.int .i64 0) := by rw [cell_of_row w1 _ 0 _ _ (0, 0) e1]; rfl
  have d1 : w1.cell? ⟨w.heap.size + 1, 1, none⟩ = some (.int .i64 0) := by rw [cell_of_row w1 _ 1 _ _ (0, 0) e1]; rfl
  have d2 : w1.cell? ⟨w.heap.size + 1, 2, none⟩ = some (.int .i64 0) := by rw [cell_of_row w1 _ 2 _ _ (0, 0) e1]; rfl
  have d3 : w1.cell? ⟨w.heap.size + 1, 3, none⟩ = some (.int .i64 0) := by rw [cell_of_row w1 _ 3 _ _ (0, 0) e1]; rfl
  have d4 : w1.cell? ⟨w.heap.size + 1, 4, none⟩ = some (.slice none 0 0) := by rw [cell_of_row w1 _ 4 _ _ (0, 0) e1]; rfl
  have k0 : w1.frozen? ⟨w.heap.size + 1, 0, none⟩ = false := frozen_of_row w1 _ 0 _ _ e1
  have k1 : w1.frozen? ⟨w.heap.size + 1, 1, none⟩ = false := frozen_of_row w1 _ 1 _ _ e1
  have k2 : w1.frozen? ⟨w.heap.size + 1, 2, none⟩ = false := frozen_of_row w1 _ 2 _ _ e1
  have k3 : w1.frozen? ⟨w.heap.size + 1, 3, none⟩ = false := frozen_of_row w1 _ 3 _ _ e1
  have k4 : w1.frozen? ⟨w.heap.size + 1, 4, none⟩ = false := frozen_of_row w1 _ 4 _ _ e1
  clear e1 e2
  go_wp2
  have hk : ∀ (W : World), W.ownsRow w.heap.size 70 4 (.slice (some ⟨gx, 0, none⟩) n n) n (rowsK n 4 (compCells C)) → ∀ (b j : Nat) (u : Value), b < gx → (W.setCell ⟨b, j, none⟩ u).ownsRow w.heap.size 70 4 (.slice (some ⟨gx, 0, none⟩) n n) n (rowsK n 4 (compCells C)) :=
    fun W h b j u hb => own_sameAt h (fun g e => by simp [Value.ownBlock] at e; subst e; exact Below.heap_setCell _ _ _ _ (by show gx ≠ b; omega))
  have hq : ∀ (W : World) (b j : Nat) (u : Value), w.grownBy W none → w.heap.size ≤ b → w.grownBy (W.setCell ⟨b, j, none⟩ u) none := fun W b j u h hb => grown_new h (grown_set W b j u) (fun g e => by simp at e; omega)
  refine bodyPost_ret (v := .agg #[.int .i64 p, .int .i64 wd, .int .i64 ht, .int .i64 rs, .slice (some ⟨gx, 0, none⟩) n n]) (by simp [results, Try.results21, go_sem, d0, d1, d2, d3, d4]) rfl ⟨gx, rfl, ?_, ?_⟩
  · exact hk _ (hk _ (hk _ (hk _ (hk _ (hk _ (unhide O1) _ _ _ (by omega)) _ _ _ (by omega)) _ _ _ (by omega)) _ _ _ (by omega)) _ _ _ (by omega)) _ _ _ (by omega)
  · exact hq _ _ _ _ (hq _ _ _ _ (hq _ _ _ _ (hq _ _ _ _ (hq _ _ _ _ (hq _ _ _ _ (unhide HG1) (by omega)) (by omega)) (by omega)) (by omega)) (by omega)) (by omega)

end Go.Proofs.Ytibgldanmhckiaa

namespace Go.Proofs.Ytibgldanmhckiaa
open Go.RowKit

/-- Components that are marked all over, from k0 on. -/
def markedC (k0 : Int) : Nat → Nat → Int := fun i j => k0 + 4 * (i : Int) + (j : Int)
theorem markPart_set (C : Nat → Nat → Int) (k0 : Int) (n k : Nat) (q : Int) (hq : k0 + 4 * (k : Int) = q) :
    ((((rowsK n 4 (compCells (fun i j => if i < k then markedC k0 i j else C i j))).set (k * 4) (.int .i64 q)).set (k * 4 + 1) (.int .i64 (q + 1))).set (k * 4 + 2) (.int .i64 (q + 1 + 1))).set (k * 4 + 3) (.int .i64 (q + 1 + 1 + 1)) = rowsK n 4 (compCells (fun i j => if i < k + 1 then markedC k0 i j else C i j)) := by
  have e0 := rowsK_set n 4 (compCells (fun i j => if i < k then markedC k0 i j else C i j)) k 0 (.int .i64 q) (by omega)
  rw [Nat.add_zero] at e0
  rw [e0, rowsK_set _ _ _ k 1 _ (by omega), rowsK_set _ _ _ k 2 _ (by omega), rowsK_set _ _ _ k 3 _ (by omega)]
  apply rowsK_congr
  intro i j _ hj
  have hj4 : j = 0 ∨ j = 1 ∨ j = 2 ∨ j = 3 := by omega
  by_cases e1 : i = k
  · subst e1
    rcases hj4 with rfl | rfl | rfl | rfl <;> simp [compCells, markedC, hq] <;> omega
  · by_cases e2 : i < k
    · rcases hj4 with rfl | rfl | rfl | rfl <;> simp [compCells, e1, e2, show i < k + 1 by omega]
    · rcases hj4 with rfl | rfl | rfl | rfl <;> simp [compCells, e1, e2, show ¬ i < k + 1 by omega]

set_option maxHeartbeats 1600000 in
theorem markCompS (ao : Option Addr) (n cap base : Nat) (C : Nat → Nat → Int) (k0 : Int) (w : World) (ho : w.ownsRow base 70 4 (.slice ao n cap) n (rowsK n 4 (compCells C))) (hn : n ≤ 4194304) (h0 : 0 ≤ k0) (h1 : k0 ≤ 1073741824) :
    Calls Try.prog 63 #[.slice ao n cap, .int .i64 k0] w fun e w' => e = .returned (.int .i64 (k0 + 4 * n)) ∧
      w'.ownsRow base 70 4 (.slice ao n cap) n (rowsK n 4 (compCells (markedC k0))) ∧ w.grownBy w' (Value.slice ao n cap).ownBlock := by
  have ho' : w.ownsRow base 70 4 (.slice ao n cap) n (rowsK n 4 (compCells (fun i j => if i < 0 then markedC k0 i j else C i j))) := by
    have e : rowsK n 4 (compCells (fun i j => if i < 0 then markedC k0 i j else C i j)) = rowsK n 4 (compCells C) := rowsK_congr (fun i j _ _ => by simp [compCells])
    rw [e]; exact ho
  clear ho
  have HO := hide ho'
  clear ho'
  go_enter Try.func63, Try.ntmps63
  go_wp2
  go_loopw [1, 5] (fun c i wr => ∃ k : Nat, k ≤ n ∧ i = .int .i64 k ∧ c = .int .i64 (k0 + 4 * k) ∧ wr.ownsRow base 70 4 (.slice ao n cap) n (rowsK n 4 (compCells (fun i j => if i < k then markedC k0 i j else C i j))) ∧ w.grownBy wr (Value.slice ao n cap).ownBlock) (fun _ i _ => n - (intOf i).toNat)
  case atStart => exact ⟨0, Nat.zero_le _, rfl, by go_num, unhide HO, World.grownBy.refl _ _⟩
  case round =>
    obtain ⟨k, hk, rfl, rfl, hok, hgk⟩ := hrel
    by_cases hlt : k < n
    · obtain ⟨g, rfl, _, _⟩ := own_at hok (by omega)
      obtain ⟨q, hq⟩ : ∃ q, k0 + 4 * (k : Int) = q := ⟨_, rfl⟩
      have HSET := hide (markPart_set C k0 n k q hq)
      have hqb : 0 ≤ q ∧ q ≤ 2000000000 := by omega
      have HQ := hide hq
      rw [hq]
      clear hq
      have f0 := hok.frozenAt (k * 4)
      have f1 := hok.frozenAt (k * 4 + 1)
      have f2 := hok.frozenAt (k * 4 + 2)
      have f3 := hok.frozenAt (k * 4 + 3)
      have hold : ∀ j, j < n * 4 → ∃ u, wr.cell? ⟨g, j, none⟩ = some u := fun j hj => by rw [hok.cellAt j hj]; exact ⟨_, List.getElem?_eq_getElem (by rw [hok.1]; omega)⟩
      obtain ⟨v0, hv0⟩ := hold (k * 4) (by omega)
      obtain ⟨v1, hv1⟩ := hold (k * 4 + 1) (by omega)
      obtain ⟨v2, hv2⟩ := hold (k * 4 + 2) (by omega)
      obtain ⟨v3, hv3⟩ := hold (k * 4 + 3) (by omega)
      have s0 := hok.stored (k * 4) (.int .i64 q)
      have s1 := s0.1.stored (k * 4 + 1) (.int .i64 (q + 1))
      have s2 := s1.1.stored (k * 4 + 2) (.int .i64 (q + 1 + 1))
      have s3 := s2.1.stored (k * 4 + 3) (.int .i64 (q + 1 + 1 + 1))
      have HG := hide (grown_trans hgk (grown_trans (grown_trans (grown_trans s0.2 s1.2) s2.2) s3.2))
      have HS := hide s3.1
      rw [unhide HSET] at HS
      clear s0 s1 s2 s3 hok hgk hold HSET
      go_wp2
      go_roundw
      case rel => exact ⟨k + 1, by omega, by go_num, by have := unhide HQ; congr 1; omega, unhide HS, unhide HG⟩
      case measure => simp [intOf]; omega
    · have hkn : k = n := by omega
      subst hkn
      go_wp2
      go_ret
      refine ⟨rfl, ?_, hgk⟩
      have e : rowsK k 4 (compCells (markedC k0)) = rowsK k 4 (compCells (fun i j => if i < k then markedC k0 i j else C i j)) := rowsK_congr (fun i j hi' _ => by simp [compCells, hi'])
      rw [e]; exact hok

set_option maxHeartbeats 1600000 in
theorem markFrame (p wd ht rs : Int) (ao : Option Addr) (n cap base : Nat) (C : Nat → Nat → Int) (k0 : Int) (w : World) (ho : w.ownsRow base 70 4 (.slice ao n cap) n (rowsK n 4 (compCells C))) (hn : n ≤ 4194304) (h0 : 0 ≤ k0) (h1 : k0 ≤ 1073741824) :
    Calls Try.prog 24 #[.agg #[.int .i64 p, .int .i64 wd, .int .i64 ht, .int .i64 rs, .slice ao n cap], .int .i64 k0] w fun e w' => e = .returned (.int .i64 (k0 + 4 * n)) ∧
      w'.ownsRow base 70 4 (.slice ao n cap) n (rowsK n 4 (compCells (markedC k0))) ∧ w.grownBy w' (Value.slice ao n cap).ownBlock := by
  have HO := hide (own_grown ho (grown_alloc (World.grownBy.refl w none) (.cells #[.int .i64 p, .int .i64 wd, .int .i64 ht, .int .i64 rs, .slice ao n cap] 26)))
  have G : Hid (w.grownBy (w.alloc (.cells #[.int .i64 p, .int .i64 wd, .int .i64 ht, .int .i64 rs, .slice ao n cap] 26)) (Value.slice ao n cap).ownBlock) := grown_any (grown_alloc (World.grownBy.refl _ _) _)
  clear ho
  go_enter Try.func24, Try.ntmps24
  go_wp2_with fail
  refine (markCompS ao n cap base C k0 _ (unhide HO) hn h0 h1).mono ?_
  rintro e w1 ⟨rfl, o1, g1⟩
  have O1 := hide o1
  have G1 := hide (grown_trans (unhide G) g1)
  clear o1 g1
  go_wp2
  go_ret
  exact ⟨rfl, unhide O1, unhide G1⟩

end Go.Proofs.Ytibgldanmhckiaa

namespace Go.Proofs.Ytibgldanmhckiaa
open Go.RowKit

/-- Coefficients that are owned, in a box. -/
structure Bc (W : World) (b : Nat) (v : Value) (X : List (List (List Int))) (F : List Nat) : Prop where
  box : W.heap[b]? = some (.cells #[v] 29 (0, 0))
  own : OwCo W (.agg #[v]) X F
theorem Bc.lt {W : World} {b : Nat} {v : Value} {X : List (List (List Int))} {F : List Nat} (h : Bc W b v X F) : b < W.heap.size := (Array.getElem?_eq_some_iff.1 h.box).1
theorem Bc.wr {W W' : World} {b : Nat} {v : Value} {X : List (List (List Int))} {F G : List Nat} (h : Bc W b v X F) (g : Wr G W W') (hb : b ∉ G) (hd : ∀ x ∈ F, x ∉ G) : Bc W' b v X F := ⟨(g.block b h.lt hb).trans h.box, h.own.wr g hd⟩
theorem Bc.keep {W W' : World} {b : Nat} {v : Value} {X : List (List (List Int))} {F : List Nat} (h : Bc W b v X F) (g : W.grownBy W' none) : Bc W' b v X F := ⟨(g.block b h.lt (by simp)).trans h.box, h.own.keep g⟩
theorem Bc.cell {W : World} {b : Nat} {v : Value} {X : List (List (List Int))} {F : List Nat} (h : Bc W b v X F) : W.cell? ⟨b, 0, none⟩ = some v := by rw [cell_of_row W b 0 _ _ (0, 0) h.box]; rfl
theorem Bc.new {W : World} {v : Value} {X : List (List (List Int))} {F : List Nat} (h : OwCo W (.agg #[v]) X F) : Bc (W.alloc (.cells #[v] 29)) W.heap.size v X F := ⟨heap_alloc_new W _, h.keep (World.grownBy_alloc _ _ _)⟩
theorem Bc.form {W : World} {v : Value} {X : List (List (List Int))} {F : List Nat} (h : OwCo W v X F) : ∃ so sc, v = .agg #[.slice so X.length sc] := by
  obtain ⟨u, rfl, h⟩ := h
  obtain ⟨so, sc, rfl⟩ := h.form
  exact ⟨so, sc, rfl⟩

/-- A frame that is owned, in a box. -/
structure Bf (W : World) (b : Nat) (p wd ht rs : Int) (q n base : Nat) (C : Nat → Nat → Int) : Prop where
  box : W.heap[b]? = some (.cells #[.int .i64 p, .int .i64 wd, .int .i64 ht, .int .i64 rs, .slice (some ⟨q, 0, none⟩) n n] 26 (0, 0))
  own : W.ownsRow base 70 4 (.slice (some ⟨q, 0, none⟩) n n) n (rowsK n 4 (compCells C))
section
variable {W W' : World} {b q n base : Nat} {p wd ht rs : Int} {C : Nat → Nat → Int}
theorem Bf.lt (h : Bf W b p wd ht rs q n base C) : b < W.heap.size := (Array.getElem?_eq_some_iff.1 h.box).1
theorem Bf.keep (h : Bf W b p wd ht rs q n base C) (g : W.grownBy W' none) : Bf W' b p wd ht rs q n base C := ⟨(g.block b h.lt (by simp)).trans h.box, own_grown h.own g⟩
theorem Bf.new (h : W.ownsRow base 70 4 (.slice (some ⟨q, 0, none⟩) n n) n (rowsK n 4 (compCells C))) (p wd ht rs : Int) : Bf (W.alloc (.cells #[.int .i64 p, .int .i64 wd, .int .i64 ht, .int .i64 rs, .slice (some ⟨q, 0, none⟩) n n] 26)) W.heap.size p wd ht rs q n base C :=
  ⟨heap_alloc_new W _, own_grown h (World.grownBy_alloc _ _ _)⟩
theorem Bf.rd (h : Bf W b p wd ht rs q n base C) : RdC W (some ⟨q, 0, none⟩) n C := own_rdC h.own
end

end Go.Proofs.Ytibgldanmhckiaa

namespace Go.Proofs.Ytibgldanmhckiaa
open Go.RowKit

theorem RdCz.st {w w' : World} {u : Value} {X : List (List (List Int))} (h : RdCz w u X) (g : w.grownBy w' none) : RdCz w' u X := by
  have s1 : StR (RdZ (RdI .i64)) := fun _ _ _ _ h g => ⟨RdI.st .i64 _ _ _ _ h.1 g, h.2⟩
  have s2 : StR (RdZ (RdR (RdZ (RdI .i64)))) := fun _ _ _ _ h g => ⟨RdR.st s1 _ _ _ _ h.1 g, h.2⟩
  have s3 : StR (RdZ (RdR (RdZ (RdR (RdZ (RdI .i64)))))) := fun _ _ _ _ h g => ⟨RdR.st s2 _ _ _ _ h.1 g, h.2⟩
  obtain ⟨v, e, h⟩ := h
  exact ⟨v, e, s3 _ _ _ _ h g⟩

/-- What came in, in its two boxes. -/
structure In2 (w W : World) (bs : Array Value) (v : Value) : Prop where
  fb : W.heap[w.heap.size]? = some (.cells bs 46 (0, 0))
  cb : W.heap[w.heap.size + 1]? = some (.cells #[v] 53 (0, 0))
  grown : w.grownBy W none
theorem In2.new {w W W' : World} {bs : Array Value} {v : Value} (h : In2 w W bs v) (g : W.grownBy W' none) : In2 w W' bs v := ⟨grown_atT g h.fb (by simp), grown_atT g h.cb (by simp), grown_trans h.grown g⟩
theorem In2.size {w W : World} {bs : Array Value} {v : Value} (h : In2 w W bs v) : w.heap.size + 2 ≤ W.heap.size := by have := (Array.getElem?_eq_some_iff.1 h.cb).1; omega
theorem In2.wr {w W W' : World} {bs : Array Value} {v : Value} {F : List Nat} (h : In2 w W bs v) (g : Wr F W W') (hF : ∀ x ∈ F, w.heap.size + 2 ≤ x) : In2 w W' bs v := by
  have hs := h.size
  exact ⟨(g.block _ (by omega) (fun e => by have := hF _ e; omega)).trans h.fb, (g.block _ (by omega) (fun e => by have := hF _ e; omega)).trans h.cb, Wr.new h.grown g (fun x hx => by have := hF x hx; omega)⟩
theorem In2.start (w : World) (bs : Array Value) (v : Value) : In2 w ((w.alloc (.cells bs 46)).alloc (.cells #[v] 53)) bs v := by
  refine ⟨?_, ?_, grown_alloc (grown_alloc (World.grownBy.refl _ _) _) _⟩
  · rw [Below.heap_alloc _ _ _ (by simp)]
    exact heap_alloc_new w _
  · have := heap_alloc_new (w.alloc (.cells bs 46)) (.cells #[v] 53)
    simpa using this
theorem In2.cell {w W : World} {bs : Array Value} {v : Value} (h : In2 w W bs v) : W.cell? ⟨w.heap.size + 1, 0, none⟩ = some v := by rw [cell_of_row W _ 0 _ _ (0, 0) h.cb]; rfl

set_option maxRecDepth 20000 in
set_option maxHeartbeats 3200000 in
theorem lawCoefsOk (HI : Hid ImplCoefsOk) (p wd ht rs : Int) (ao : Option Addr) (n cap : Nat) (C : Nat → Nat → Int) (v : Value) (X : List (List (List Int))) (w : World) (hr : RdC w ao n C) (hm : n ≤ maxLen) (hx : RdCz w (.agg #[v]) X) :
    Calls Try.prog 5 #[.agg #[.int .i64 p, .int .i64 wd, .int .i64 ht, .int .i64 rs, .slice ao n cap], .agg #[v]] w fun e w' => e = .returned (.bool true) ∧ Below w.heap.size w w' := by
  unfold maxLen at hm
  obtain ⟨xo, xc, rfl⟩ : ∃ xo xc, v = .slice xo X.length xc := by
    obtain ⟨v', e, h⟩ := hx
    obtain ⟨xo, xc, e2, _⟩ := h.1
    have : v = v' := by simpa using e
    exact ⟨xo, xc, this.trans e2⟩
  obtain ⟨m, HM⟩ : ∃ m, Hid (X.length = m) := ⟨_, rfl⟩
  rw [unhide HM] at hx ⊢
  have HR := hide hr
  have HX := hide hx
  clear hr hx
  obtain ⟨fb, HFB⟩ : ∃ fb, Hid (frameB p wd ht rs n C = fb) := ⟨_, rfl⟩
  obtain ⟨b, HB⟩ : ∃ b, Hid (coefsOkF fb wd ht n C X = b) := ⟨_, rfl⟩
  have I0 := hide (In2.start w #[.int .i64 p, .int .i64 wd, .int .i64 ht, .int .i64 rs, .slice ao n cap] (.slice xo m xc))
  have c0 := (unhide I0).cell
  have ca := frameCells (unhide I0).fb
  by_cases hbig : (n : Int) ≤ 1048576
  · obtain ⟨lf, hlf⟩ : ∃ lf : Nat, (1048576 : Int) - (n : Int) = (lf : Int) := ⟨1048576 - n, by omega⟩
    have HSZ : Hid ((if (n : Int) ≤ 1048576 then 1048576 - (n : Int) else -1) = (lf : Int)) := (if_pos hbig).trans hlf
    have hneg : decide ((lf : Int) < 0) = false := decide_eq_false (by omega)
    have hn : n ≤ 4194304 := by omega
    have hl1 : lf ≤ 1048576 := by omega
    clear hlf
    by_cases hsz : szCo X ≤ lf
    · obtain ⟨r, HR2⟩ : ∃ r : Int, Hid ((if szCo X ≤ lf then (lf : Int) - szCo X else -1) = r) := ⟨_, rfl⟩
      have hr2 : decide (r < 0) = false := decide_eq_false (by have := unhide HR2; rw [if_pos hsz] at this; omega)
      have hs : szCo X ≤ 1048576 := by omega
      have hbb : (b != b) = false := by simp
      go_enter Try.func5, Try.ntmps5
      go_wp2_with fail
      generalize ((w.alloc (.cells #[.int .i64 p, .int .i64 wd, .int .i64 ht, .int .i64 rs, .slice ao n cap] 46)).alloc (.cells #[.slice xo m xc] 53)) = wx at *
      refine (szFrame p wd ht rs ao n cap 1048576 _ wx (by omega) (by omega) (by omega) HSZ).mono ?_
      rintro e w1 ⟨rfl, g1⟩
      have I1 := hide ((unhide I0).new g1)
      clear c0 ca g1 I0
      have c0 := (unhide I1).cell
      go_wp2_with fail
      refine (szCoefsC w1 _ X lf ((unhide HX).st (unhide I1).grown) hl1 r HR2).mono ?_
      rintro e w2 ⟨rfl, g2⟩
      have I2 := hide ((unhide I1).new g2)
      clear c0 g2 I1
      go_wp2
      refine wp_region_noPanic ?_
      refine wp_region_tailL 20 (fun W => In2 w W #[.int .i64 p, .int .i64 wd, .int .i64 ht, .int .i64 rs, .slice ao n cap] (.slice xo m xc)) [true, false, true, false, false, false] (by kernel_rfl) (fun _ _ _ _ _ h => h) rfl (by decide) (by kernel_rfl) ((unhide I2).new (grown_drew (World.grownBy.refl _ _))) ?_
      have I3 := hide ((unhide I2).new (grown_drew (World.grownBy.refl _ _)))
      clear I2
      generalize w2.drew = w3 at *
      refine heldF_take (v := ?_) (Or.inl ⟨by rfl, ?_⟩) ?_
      rotate_left 1
      · intro w' hSw
        try dsimp only at hSw
        have s1 := frameCells hSw.fb
        go_simp
        try with_reducible rfl
      simp only [Act.put, List.setIfInBounds_toArray, List.set_cons_zero, List.set_cons_succ]
      refine heldF_skip ?_
      refine heldF_take (v := ?_) (Or.inl ⟨by rfl, ?_⟩) ?_
      rotate_left 1
      · intro w' hSw
        try dsimp only at hSw
        have s1 := hSw.cell
        go_simp
        try with_reducible rfl
      simp only [Act.put, List.setIfInBounds_toArray, List.set_cons_zero, List.set_cons_succ]
      refine heldF_skip (heldF_skip (heldF_skip (heldF_nil ?_)))
      refine tailL_skip (tailL_step (fun K hK => ?_))
      go_simp
      refine (toFrame p wd ht rs ao n cap C w3 ((unhide HR).grown (unhide I3).grown) hn).mono ?_
      rintro e w4 ⟨q1, rfl, o4, g4⟩
      have I4 := hide ((unhide I3).new g4)
      have RF := hide (own_rdC o4)
      clear I3 g4 o4
      go_simp
      refine hK.out _ _ (.inr (unhide I4)) ?_
      clear hK K
      refine tailL_skip (tailL_step (fun K hK => ?_))
      go_simp
      refine (toCoefsC w4 _ X ((unhide HX).st (unhide I4).grown).rd hs).mono ?_
      rintro e w5 ⟨u5, F5, rfl, o5, n5, l5, g5⟩
      obtain ⟨vo, vc, rfl⟩ := Bc.form o5
      rw [unhide HM] at o5 ⊢
      have I5 := hide ((unhide I4).new g5)
      have RF5 := hide ((unhide RF).grown g5)
      obtain ⟨v5, e5, r5⟩ := o5.rd
      obtain rfl : Value.slice vo m vc = v5 := by simpa using e5
      have RX5 := hide r5
      clear I4 g5 o5 n5 l5 RF e5 r5
      go_simp
      refine hK.out _ _ (.inr (unhide I5)) ?_
      clear hK K
      refine tailL_step (fun K hK => ?_)
      go_simp
      refine (specCoefsOk p wd ht rs _ n n C _ X w5 (unhide RF5) (unhide RX5) hs fb b HFB HB).mono ?_
      rintro e w6 ⟨rfl, g6⟩
      have I6 := hide ((unhide I5).new g6)
      clear I5 RF5 RX5 g6
      go_simp
      refine hK.out _ _ (.inr (unhide I6)) ?_
      clear hK K
      refine tailL_step (fun K hK => ?_)
      go_simp
      refine hK.out _ _ (.inl rfl) ?_
      clear hK K
      refine tailL_nil (NoPanic.normal ?_)
      have ca := frameCells (unhide I6).fb
      go_wp2_with fail
      refine (toFrame p wd ht rs ao n cap C w6 ((unhide HR).grown (unhide I6).grown) hn).mono ?_
      rintro e w7 ⟨q2, rfl, o7, g7⟩
      have g8 := grown_alloc g7 (.cells #[.int .i64 p, .int .i64 wd, .int .i64 ht, .int .i64 rs, .slice (some ⟨q2, 0, none⟩) n n] 26)
      have I8 := hide ((unhide I6).new g8)
      have HF8 := hide (Bf.new o7 p wd ht rs)
      have c0 := (unhide I8).cell
      clear ca g7 g8 o7 I6
      go_wp2_with fail
      generalize (w7.alloc (.cells #[.int .i64 p, .int .i64 wd, .int .i64 ht, .int .i64 rs, .slice (some ⟨q2, 0, none⟩) n n] 26)) = w8 at *
      refine (toCoefsC w8 _ X ((unhide HX).st (unhide I8).grown).rd hs).mono ?_
      rintro e w9 ⟨u9, F9, rfl, o9, n9, l9, g9⟩
      obtain ⟨yo, yc, rfl⟩ := Bc.form o9
      rw [unhide HM] at o9 ⊢
      have ga := grown_alloc g9 (.cells #[.slice yo m yc] 29)
      have Ia := hide ((unhide I8).new ga)
      have HFa := hide ((unhide HF8).keep ga)
      have HCa := hide (Bc.new o9)
      have cx := frameCells (unhide HFa).box
      have cy := (unhide HCa).cell
      clear c0 g9 ga o9 n9 l9 I8 HF8
      go_wp2_with fail
      generalize (w9.alloc (.cells #[.slice yo m yc] 29)) = wa at *
      obtain ⟨v9, e9, r9⟩ := (unhide HCa).own.rd
      obtain rfl : Value.slice yo m yc = v9 := by simpa using e9
      refine (unhide HI p wd ht rs _ n n C _ X wa (unhide HFa).rd hn r9 hs fb b HFB HB).mono ?_
      rintro e wb ⟨rfl, gb⟩
      have Ib := hide ((unhide Ia).new gb)
      have HFb := hide ((unhide HFa).keep gb)
      have HCb := hide ((unhide HCa).keep gb)
      clear cx cy e9 r9 gb Ia HFa HCa
      go_wp2
      refine wp_region_noPanic ?_
      have gd := grown_drew (World.grownBy.refl wb none)
      have Ic := hide ((unhide Ib).new gd)
      have HFc := hide ((unhide HFb).keep gd)
      have HCc := hide ((unhide HCb).keep gd)
      clear gd Ib HFb HCb
      refine wp_region_tailL 20 (fun W => In2 w W #[.int .i64 p, .int .i64 wd, .int .i64 ht, .int .i64 rs, .slice ao n cap] (.slice xo m xc) ∧ Bf W w7.heap.size p wd ht rs q2 n w6.heap.size C) [true, true, false, false, false] (by kernel_rfl) (fun _ _ _ _ _ h => h) rfl (by decide) (by kernel_rfl) ⟨unhide Ic, unhide HFc⟩ ?_
      generalize wb.drew = wc1 at *
      refine heldF_take (v := ?_) (Or.inl ⟨by rfl, ?_⟩) ?_
      rotate_left 1
      · intro w' hSw
        try dsimp only at hSw
        have s1 := frameCells hSw.2.box
        go_simp
        try with_reducible rfl
      simp only [Act.put, List.setIfInBounds_toArray, List.set_cons_zero, List.set_cons_succ]
      refine heldF_take (v := ?_) (Or.inl ⟨by rfl, ?_⟩) ?_
      rotate_left 1
      · intro w' hSw
        try dsimp only at hSw
        have s1 := frameCells hSw.1.fb
        go_simp
        try with_reducible rfl
      simp only [Act.put, List.setIfInBounds_toArray, List.set_cons_zero, List.set_cons_succ]
      refine heldF_skip (heldF_skip (heldF_skip (heldF_nil ?_)))
      refine tailL_skip (tailL_skip (tailL_step (fun K hK => ?_)))
      go_simp
      refine (toFrame p wd ht rs ao n cap C wc1 ((unhide HR).grown (unhide Ic).grown) hn).mono ?_
      rintro e wd1 ⟨q3, rfl, od, gd⟩
      have Id := hide ((unhide Ic).new gd)
      have HFd := hide ((unhide HFc).keep gd)
      have HCd := hide ((unhide HCc).keep gd)
      have RD := hide (own_rdC od)
      clear Ic HFc HCc gd od
      go_simp
      refine hK.out _ _ (.inr ⟨unhide Id, unhide HFd⟩) ?_
      clear hK K
      refine tailL_step (fun K hK => ?_)
      go_simp
      refine (eqFrame p wd ht rs _ _ n n n C wd1 (unhide HFd).rd (unhide RD) hn).mono ?_
      rintro e we ⟨rfl, ge⟩
      have Ie := hide ((unhide Id).new ge)
      have HFe := hide ((unhide HFd).keep ge)
      have HCe := hide ((unhide HCd).keep ge)
      clear Id HFd HCd ge RD
      go_simp
      refine hK.out _ _ (.inr ⟨unhide Ie, unhide HFe⟩) ?_
      clear hK K
      refine tailL_step (fun K hK => ?_)
      go_simp
      refine hK.out _ _ (.inl rfl) ?_
      clear hK K HFe
      refine tailL_nil (NoPanic.normal ?_)
      go_wp2
      refine wp_region_noPanic ?_
      have gd := grown_drew (World.grownBy.refl we none)
      have If := hide ((unhide Ie).new gd)
      have HCf := hide ((unhide HCe).keep gd)
      clear gd Ie HCe
      refine wp_region_tailL 20 (fun W => In2 w W #[.int .i64 p, .int .i64 wd, .int .i64 ht, .int .i64 rs, .slice ao n cap] (.slice xo m xc) ∧ W.cell? ⟨w9.heap.size, 0, none⟩ = some (.slice yo m yc)) [true, true, false, false, false] (by kernel_rfl) (fun _ _ _ _ _ h => h) rfl (by decide) (by kernel_rfl) ⟨unhide If, (unhide HCf).cell⟩ ?_
      generalize we.drew = wf at *
      refine heldF_take (v := ?_) (Or.inl ⟨by rfl, ?_⟩) ?_
      rotate_left 1
      · intro w' hSw
        try dsimp only at hSw
        have s1 := hSw.2
        go_simp
        try with_reducible rfl
      simp only [Act.put, List.setIfInBounds_toArray, List.set_cons_zero, List.set_cons_succ]
      refine heldF_take (v := ?_) (Or.inl ⟨by rfl, ?_⟩) ?_
      rotate_left 1
      · intro w' hSw
        try dsimp only at hSw
        have s1 := hSw.1.cell
        go_simp
        try with_reducible rfl
      simp only [Act.put, List.setIfInBounds_toArray, List.set_cons_zero, List.set_cons_succ]
      refine heldF_skip (heldF_skip (heldF_skip (heldF_nil ?_)))
      refine tailL_skip (tailL_skip (tailL_step (fun K hK => ?_)))
      go_simp
      refine (toCoefsC wf _ X ((unhide HX).st (unhide If).grown).rd hs).mono ?_
      rintro e wg ⟨ug, Fg, rfl, og, ng, lg, gg⟩
      obtain ⟨zo, zc, rfl⟩ := Bc.form og
      rw [unhide HM] at og ⊢
      have Ig := hide ((unhide If).new gg)
      have HCg := hide ((unhide HCf).keep gg)
      have OG := hide og.rd
      clear If HCf gg og ng lg
      go_simp
      refine hK.out _ _ (.inr ⟨unhide Ig, (unhide HCg).cell⟩) ?_
      clear hK K
      refine tailL_step (fun K hK => ?_)
      go_simp
      refine (eqCoefsC wg _ _ X (unhide HCg).own.rd (unhide OG) hs).mono ?_
      rintro e wh ⟨rfl, gh⟩
      have Ih := hide ((unhide Ig).new gh)
      have HCh := hide ((unhide HCg).keep gh)
      clear Ig HCg gh OG
      go_simp
      refine hK.out _ _ (.inr ⟨unhide Ih, (unhide HCh).cell⟩) ?_
      clear hK K
      refine tailL_step (fun K hK => ?_)
      go_simp
      refine hK.out _ _ (.inl rfl) ?_
      clear hK K
      refine tailL_nil (NoPanic.normal ?_)
      go_wp2
      go_ret
      exact ⟨rfl, grown_below (unhide Ih).grown⟩
    · obtain ⟨r, HR2⟩ : ∃ r : Int, Hid ((if szCo X ≤ lf then (lf : Int) - szCo X else -1) = r) := ⟨_, rfl⟩
      have hr2 : decide (r < 0) = true := decide_eq_true (by have := unhide HR2; rw [if_neg hsz] at this; omega)
      go_enter Try.func5, Try.ntmps5
      go_wp2_with fail
      generalize ((w.alloc (.cells #[.int .i64 p, .int .i64 wd, .int .i64 ht, .int .i64 rs, .slice ao n cap] 46)).alloc (.cells #[.slice xo m xc] 53)) = wx at *
      refine (szFrame p wd ht rs ao n cap 1048576 _ wx (by omega) (by omega) (by omega) HSZ).mono ?_
      rintro e w1 ⟨rfl, g1⟩
      have I1 := hide ((unhide I0).new g1)
      clear c0 ca g1 I0
      have c0 := (unhide I1).cell
      go_wp2_with fail
      refine (szCoefsC w1 _ X lf ((unhide HX).st (unhide I1).grown) hl1 r HR2).mono ?_
      rintro e w2 ⟨rfl, g2⟩
      have I2 := hide ((unhide I1).new g2)
      clear c0 g2 I1
      go_wp2
      go_ret
      exact ⟨rfl, grown_below (unhide I2).grown⟩
  · have HSZ : Hid ((if (n : Int) ≤ 1048576 then 1048576 - (n : Int) else -1) = -1) := if_neg hbig
    go_enter Try.func5, Try.ntmps5
    go_wp2_with fail
    generalize ((w.alloc (.cells #[.int .i64 p, .int .i64 wd, .int .i64 ht, .int .i64 rs, .slice ao n cap] 46)).alloc (.cells #[.slice xo m xc] 53)) = wx at *
    refine (szFrame p wd ht rs ao n cap 1048576 _ wx (by omega) (by omega) (by omega) HSZ).mono ?_
    rintro e w1 ⟨rfl, g1⟩
    have I1 := hide ((unhide I0).new g1)
    clear c0 ca g1 I0
    go_wp2
    go_ret
    exact ⟨rfl, grown_below (unhide I1).grown⟩

end Go.Proofs.Ytibgldanmhckiaa

namespace Go.Proofs.Ytibgldanmhckiaa
open Go.RowKit

structure In3 (w W : World) (bs : Array Value) (v : Value) (ps : Array Value) : Prop where
  fb : W.heap[w.heap.size]? = some (.cells bs 46 (0, 0))
  cb : W.heap[w.heap.size + 1]? = some (.cells #[v] 53 (0, 0))
  pb : W.heap[w.heap.size + 1 + 1]? = some (.cells ps 57 (0, 0))
  grown : w.grownBy W none
theorem In3.new {w W W' : World} {bs ps : Array Value} {v : Value} (h : In3 w W bs v ps) (g : W.grownBy W' none) : In3 w W' bs v ps := ⟨grown_atT g h.fb (by simp), grown_atT g h.cb (by simp), grown_atT g h.pb (by simp), grown_trans h.grown g⟩
theorem In3.size {w W : World} {bs ps : Array Value} {v : Value} (h : In3 w W bs v ps) : w.heap.size + 3 ≤ W.heap.size := by have := (Array.getElem?_eq_some_iff.1 h.pb).1; omega
theorem In3.wr {w W W' : World} {bs ps : Array Value} {v : Value} {F : List Nat} (h : In3 w W bs v ps) (g : Wr F W W') (hF : ∀ x ∈ F, w.heap.size + 3 ≤ x) : In3 w W' bs v ps := by
  have hs := h.size
  exact ⟨(g.block _ (by omega) (fun e => by have := hF _ e; omega)).trans h.fb, (g.block _ (by omega) (fun e => by have := hF _ e; omega)).trans h.cb, (g.block _ (by omega) (fun e => by have := hF _ e; omega)).trans h.pb, Wr.new h.grown g (fun x hx => by have := hF x hx; omega)⟩
theorem In3.start (w : World) (bs : Array Value) (v : Value) (ps : Array Value) : In3 w (((w.alloc (.cells bs 46)).alloc (.cells #[v] 53)).alloc (.cells ps 57)) bs v ps := by
  refine ⟨?_, ?_, ?_, grown_alloc (grown_alloc (grown_alloc (World.grownBy.refl _ _) _) _) _⟩
  · rw [Below.heap_alloc _ _ _ (by first | (simp; done) | (simp; omega)), Below.heap_alloc _ _ _ (by simp)]
    exact heap_alloc_new w _
  · rw [Below.heap_alloc _ _ _ (by simp)]
    have := heap_alloc_new (w.alloc (.cells bs 46)) (.cells #[v] 53)
    simpa using this
  · have := heap_alloc_new ((w.alloc (.cells bs 46)).alloc (.cells #[v] 53)) (.cells ps 57)
    simpa using this
theorem In3.cell {w W : World} {bs ps : Array Value} {v : Value} (h : In3 w W bs v ps) : W.cell? ⟨w.heap.size + 1, 0, none⟩ = some v := by rw [cell_of_row W _ 0 _ _ (0, 0) h.cb]; rfl
theorem In3.place {w W : World} {bs : Array Value} {a b c v : Value} (h : In3 w W bs v #[a, b, c]) : W.cell? ⟨w.heap.size + 1 + 1, 0, none⟩ = some a ∧ W.cell? ⟨w.heap.size + 1 + 1, 1, none⟩ = some b ∧ W.cell? ⟨w.heap.size + 1 + 1, 2, none⟩ = some c :=
  ⟨by rw [cell_of_row W _ 0 _ _ (0, 0) h.pb]; rfl, by rw [cell_of_row W _ 1 _ _ (0, 0) h.pb]; rfl, by rw [cell_of_row W _ 2 _ _ (0, 0) h.pb]; rfl⟩

set_option maxHeartbeats 1600000 in
theorem toPlace (co ro cl : Int) (w : World) :
    Calls Try.prog 30 #[.agg #[.int .i64 co, .int .i64 ro, .int .i64 cl]] w fun e w' => e = .returned (.agg #[.int .i64 co, .int .i64 ro, .int .i64 cl]) ∧ w.grownBy w' none := by
  go_enter Try.func30, Try.ntmps30
  go_wp2
  refine bodyPost_ret (v := .agg #[.int .i64 co, .int .i64 ro, .int .i64 cl]) (by simp [results, Try.results30, go_sem]) rfl ?_
  exact ⟨rfl, grown_alloc (grown_alloc (grown_alloc (World.grownBy.refl _ _) _) _) _⟩

theorem blockAt_len (b : Bool) (wd ht : Int) (n : Nat) (C : Nat → Nat → Int) (X : List (List (List Int))) (co ro cl : Int) : (blockAtF b wd ht n C X co ro cl).length ≤ 64 := by
  unfold blockAtF
  split
  · rename_i h
    unfold coefsOkF at h
    rw [Bool.and_eq_true] at h
    split
    · rename_i k hpl
      obtain ⟨c, r, l, rfl, rfl, rfl, hcn, -, -, -, hkb⟩ := place_in hpl
      obtain ⟨hX, hl, hb⟩ := ok_plane h.2 c hcn
      have hk : k < X[c].length := by omega
      have e : (X.getD (c : Int).toNat []).getD k [] = X[c][k] := by simp [hX, hk]
      rw [e, block_len (hb k hk)]
      exact Nat.le_refl _
    · simp
  · simp

end Go.Proofs.Ytibgldanmhckiaa

namespace Go.Proofs.Ytibgldanmhckiaa
open Go.RowKit

theorem step_append_copy {w : World} {ops : Array Oper} {o : Oper} {a : Act} {K : Act → World → Prop} {Q : Exit → Act → World → Prop} {E : Prop} (hgd : o.guard = none) (s x : Operand)
    (ho : o.op = .call { callee := .builtin .append, args := #[s, x], argTypes := #[32, 32] })
    (sz : Nat) (hsz : w.heap.size = sz) (hs : a.eval s = .slice (some ⟨sz, 0, none⟩) 0 0) (ad : Addr) (m c : Nat) (zs : List Int) (hx : a.eval x = .slice (some ad) m c) (hr : Rd .i64 w (some ad) m zs) (hm : 0 < m) (hb : m ≤ 1000000)
    (h : ∀ g c' w', OwI .i64 3 w' (.slice (some ⟨g, 0, none⟩) zs.length c') zs (blk (.slice (some ⟨g, 0, none⟩) zs.length c')) → sz ≤ g → w.grownBy w' none → K (a.put o.dst (.slice (some ⟨g, 0, none⟩) zs.length c')) w') :
    if Region.wanted o (yielded ops a.tmps) = true then Oper.wp Try.prog o a (w.alloc (.cells #[] 3)) K Q else E := by
  subst hsz
  obtain ⟨i0, hi, hz0, hz1, hz2⟩ := info_parts info_i9
  have hl := hr.1
  have hr2 := hr.grown (World.grownBy_alloc w (.cells #[] 3) none)
  have ho2 : (w.alloc (.cells #[] 3)).ownsRow w.heap.size 3 1 (.slice (some ⟨w.heap.size, 0, none⟩) 0 0) 0 [] := World.ownsRow_lit w #[] 0 (Nat.le_refl _) (by unfold maxLen; omega) rfl
  refine step_append_lies _ hgd s x 32 ho w.heap.size 3 i0 _ 1 8 Try.underlying32 hi hz0 hz1 hz2 rfl (by decide) (.slice (some ⟨w.heap.size, 0, none⟩) 0 0) 0 _ hs ho2 ad m c (zs.map (Value.int .i64)) hx (by simp [hl]) (rd_newsI hr2) (by intro u hu; obtain ⟨y, _, rfl⟩ := List.mem_map.1 hu; rfl) (by omega) (by unfold maxLen; omega) (by omega) (by simp) _ rfl ?_
  intro g c' w' h1 h2 _ _
  rw [Nat.zero_add, List.nil_append, ← hl] at h1
  rw [Nat.zero_add, ← hl]
  refine h g c' w' (OwI.of h1) (h1.lt g rfl).1 ?_
  exact grown_new (World.grownBy_alloc w (.cells #[] 3) none) h2 (fun k e => by have : w.heap.size = k := Option.some.inj e; omega)

/-- The four boxes of WithBlock. -/
structure Wb (w W : World) (b0 b1 b2 : Array Value) : Prop where
  fb : W.heap[w.heap.size]? = some (.cells b0 26 (0, 0))
  cb : W.heap[w.heap.size + 1]? = some (.cells b1 29 (0, 0))
  pb : W.heap[w.heap.size + 1 + 1]? = some (.cells b2 31 (0, 0))
  rb : W.heap[w.heap.size + 1 + 1 + 1]? = some (.cells #[.slice none 0 0] 29 (0, 0))
  grown : w.grownBy W none
theorem Wb.new {w W W' : World} {b0 b1 b2 : Array Value} (h : Wb w W b0 b1 b2) (g : W.grownBy W' none) : Wb w W' b0 b1 b2 := ⟨grown_atT g h.fb (by simp), grown_atT g h.cb (by simp), grown_atT g h.pb (by simp), grown_atT g h.rb (by simp), grown_trans h.grown g⟩
theorem Wb.size {w W : World} {b0 b1 b2 : Array Value} (h : Wb w W b0 b1 b2) : w.heap.size + 4 ≤ W.heap.size := by have := (Array.getElem?_eq_some_iff.1 h.rb).1; omega
theorem Wb.start (w : World) (b0 b1 b2 : Array Value) : Wb w ((((w.alloc (.cells b0 26)).alloc (.cells b1 29)).alloc (.cells b2 31)).alloc (.cells #[.slice none 0 0] 29)) b0 b1 b2 := by
  refine ⟨?_, ?_, ?_, ?_, grown_alloc (grown_alloc (grown_alloc (grown_alloc (World.grownBy.refl _ _) _) _) _) _⟩
  · rw [Below.heap_alloc _ _ _ (by first | (simp; done) | (simp; omega)), Below.heap_alloc _ _ _ (by first | (simp; done) | (simp; omega)), Below.heap_alloc _ _ _ (by simp)]
    exact heap_alloc_new w _
  · rw [Below.heap_alloc _ _ _ (by first | (simp; done) | (simp; omega)), Below.heap_alloc _ _ _ (by simp)]
    have := heap_alloc_new (w.alloc (.cells b0 26)) (.cells b1 29)
    simpa using this
  · rw [Below.heap_alloc _ _ _ (by simp)]
    have := heap_alloc_new ((w.alloc (.cells b0 26)).alloc (.cells b1 29)) (.cells b2 31)
    simpa using this
  · have := heap_alloc_new (((w.alloc (.cells b0 26)).alloc (.cells b1 29)).alloc (.cells b2 31)) (.cells #[.slice none 0 0] 29)
    simpa using this
theorem Wb.cell {w W : World} {b0 b1 b2 : Array Value} (h : Wb w W b0 b1 b2) : (∀ j, W.cell? ⟨w.heap.size, j, none⟩ = b0[j]?) ∧ (∀ j, W.cell? ⟨w.heap.size + 1, j, none⟩ = b1[j]?) ∧ (∀ j, W.cell? ⟨w.heap.size + 1 + 1, j, none⟩ = b2[j]?) :=
  ⟨fun j => cell_of_row W _ j _ _ (0, 0) h.fb, fun j => cell_of_row W _ j _ _ (0, 0) h.cb, fun j => cell_of_row W _ j _ _ (0, 0) h.pb⟩
theorem Wb.set {w W : World} {b0 b1 b2 : Array Value} (h : Wb w W b0 b1 b2) {g : Nat} (hg : w.heap.size + 4 ≤ g) (k : Nat) (v : Value) : Wb w (W.setCell ⟨g, k, none⟩ v) b0 b1 b2 := by
  have gs := grown_set W g k v
  exact ⟨grown_atT gs h.fb (by simp; omega), grown_atT gs h.cb (by simp; omega), grown_atT gs h.pb (by simp; omega), grown_atT gs h.rb (by simp; omega), grown_new h.grown gs (fun x e => by have := Option.some.inj e; omega)⟩
theorem OwR.memF {α : Type} {e : TypeId} {P : World → Value → α → List Nat → Prop} {w : World} {g n c : Nat} {L : List α} {F : List Nat} (h : OwR e P w (.slice (some ⟨g, 0, none⟩) n c) L F) : g ∈ F := by
  obtain ⟨us, Fs, _, _, _, _, rfl⟩ := h
  exact List.mem_append.2 (.inl (mem_blk.2 rfl))
/-- The answer is put into its box. -/
theorem Wb.fin {w W : World} {b0 b1 b2 : Array Value} (h : Wb w W b0 b1 b2) (v : Value) : (W.setCell ⟨w.heap.size + 1 + 1 + 1, 0, none⟩ v).cell? ⟨w.heap.size + 1 + 1 + 1, 0, none⟩ = some v ∧ W.cell? ⟨w.heap.size + 1 + 1 + 1, 0, none⟩ = some (.slice none 0 0) ∧ W.frozen? ⟨w.heap.size + 1 + 1 + 1, 0, none⟩ = false ∧ w.grownBy (W.setCell ⟨w.heap.size + 1 + 1 + 1, 0, none⟩ v) none := by
  refine ⟨?_, by rw [cell_of_row W _ 0 _ _ (0, 0) h.rb]; rfl, frozen_of_row W _ 0 _ _ h.rb, grown_new h.grown (grown_set _ _ _ _) (fun k e => by have := Option.some.inj e; omega)⟩
  rw [cell_of_row _ _ 0 _ _ (0, 0) (heap_setCell_same W _ 0 _ _ _ h.rb)]; rfl

set_option maxRecDepth 20000 in
set_option maxHeartbeats 6400000 in
theorem specWith (p wd ht rs : Int) (ao : Option Addr) (n cap : Nat) (C : Nat → Nat → Int) (v : Value) (X : List (List (List Int))) (co ro cl : Int) (bo : Option Addr) (bn bc : Nat) (bl : List Int) (w : World) (hr : RdC w ao n C) (hx : Rd3 w v X) (hs : szCo X ≤ 1048576) (hbl : Rd .i64 w bo bn bl) (fb : Bool) (HFB : Hid (frameB p wd ht rs n C = fb)) (L : List (List (List Int))) (HL : Hid (withBlockF fb wd ht n C X co ro cl bl = L)) :
    Calls Try.prog 11 #[.agg #[.int .i64 p, .int .i64 wd, .int .i64 ht, .int .i64 rs, .slice ao n cap], .agg #[v], .agg #[.int .i64 co, .int .i64 ro, .int .i64 cl], .slice bo bn bc] w fun e w' => ∃ u F, e = .returned u ∧ OwCo w' u L F ∧ F.Nodup ∧ (∀ g ∈ F, w.heap.size ≤ g) ∧ w.grownBy w' none := by
  obtain ⟨xo, xc, rfl, hel⟩ := id hx
  obtain ⟨m, HM⟩ : ∃ m, Hid (X.length = m) := ⟨_, rfl⟩
  have HX := hide hx
  rw [unhide HM] at HX ⊢
  have HW0 := hide (Wb.start w #[.int .i64 p, .int .i64 wd, .int .i64 ht, .int .i64 rs, .slice ao n cap] #[.slice xo m xc] #[.int .i64 co, .int .i64 ro, .int .i64 cl])
  obtain ⟨W4, HW⟩ : ∃ W4, Hid (((((w.alloc (.cells #[.int .i64 p, .int .i64 wd, .int .i64 ht, .int .i64 rs, .slice ao n cap] 26)).alloc (.cells #[.slice xo m xc] 29)).alloc (.cells #[.int .i64 co, .int .i64 ro, .int .i64 cl] 31)).alloc (.cells #[.slice none 0 0] 29)) = W4) := ⟨_, rfl⟩
  rw [unhide HW] at HW0
  obtain ⟨ok, HOK⟩ : ∃ ok, Hid (coefsOkF fb wd ht n C X = ok) := ⟨_, rfl⟩
  have HCO := hide (specCoefsOk p wd ht rs ao n cap C _ X W4 (hr.grown (unhide HW0).grown) (st3 _ _ _ _ (unhide HX) (unhide HW0).grown) hs fb ok HFB HOK)
  have HR := hide hr
  have HBL := hide hbl
  have HNIL : Hid (L = [] → ∀ W : World, Wb w W #[.int .i64 p, .int .i64 wd, .int .i64 ht, .int .i64 rs, .slice ao n cap] #[.slice xo m xc] #[.int .i64 co, .int .i64 ro, .int .i64 cl] → OwCo (W.setCell ⟨w.heap.size + 1 + 1 + 1, 0, none⟩ (.slice none 0 0)) (.agg #[.slice none 0 0]) L [] ∧ ([] : List Nat).Nodup ∧ (∀ g ∈ ([] : List Nat), w.heap.size ≤ g) ∧ w.grownBy (W.setCell ⟨w.heap.size + 1 + 1 + 1, 0, none⟩ (.slice none 0 0)) none) := fun e W h => by
    subst e
    exact ⟨⟨_, rfl, OwR.nil _ _ _⟩, List.nodup_nil, fun g hg => by simp at hg, (h.fin _).2.2.2⟩
  clear hr hx hel hs hbl
  obtain ⟨lv, HLV⟩ : ∃ lv, Hid (levB (-16383) 16383 bl = lv) := ⟨_, rfl⟩
  cases ok with
  | false =>
    have e : L = [] := by rw [← unhide HL, withBlockF, unhide HOK]; rfl
    go_enter Try.func11, Try.ntmps11
    go_wp2_with fail
    rw [unhide HW]
    refine (unhide HCO).mono ?_
    rintro e w1 ⟨rfl, g1⟩
    have HW1 := hide ((unhide HW0).new g1)
    clear g1 HCO
    have HE := hide (unhide HNIL e w1 (unhide HW1))
    have HFC := hide ((unhide HW1).fin (.slice none 0 0))
    have d0 := (unhide HFC).2.1
    have k0 := (unhide HFC).2.2.1
    clear HW1 HNIL e
    go_wp2
    refine bodyPost_ret (v := .agg #[.slice none 0 0]) (by have hcc := (unhide HFC).1; simp [results, Try.results11, go_sem, hcc]) rfl ?_
    exact ⟨_, [], rfl, unhide HE⟩
  | true =>
    have hfb : fb = true := by
      cases fb with
      | true => rfl
      | false => have := unhide HOK; cases this
    subst hfb
    have hg := geo_of (unhide HFB)
    have HG := hide hg
    have hokb : coefsOkB wd ht n C X = true := unhide HOK
    have HKB := hide hokb
    clear hg hokb
    cases lv with
    | false =>
      have e : L = [] := by rw [← unhide HL, withBlockF, unhide HOK, unhide HLV]; rfl
      go_enter Try.func11, Try.ntmps11
      go_wp2_with fail
      rw [unhide HW]
      refine (unhide HCO).mono ?_
      rintro e w1 ⟨rfl, g1⟩
      have HW1 := hide ((unhide HW0).new g1)
      clear g1 HCO
      go_wp2_with fail
      refine (specLevel _ bn bc bl w1 ((unhide HBL).grown (unhide HW1).grown) false HLV).mono ?_
      rintro e w2 ⟨rfl, g2⟩
      have HW2 := hide ((unhide HW1).new g2)
      clear g2 HW1
      have HE := hide (unhide HNIL e w2 (unhide HW2))
      have HFC := hide ((unhide HW2).fin (.slice none 0 0))
      have d0 := (unhide HFC).2.1
      have k0 := (unhide HFC).2.2.1
      clear HW2 HNIL e
      go_wp2
      refine bodyPost_ret (v := .agg #[.slice none 0 0]) (by have hcc := (unhide HFC).1; simp [results, Try.results11, go_sem, hcc]) rfl ?_
      exact ⟨_, [], rfl, unhide HE⟩
    | true =>
      cases hpl : placeO wd ht n C co ro cl with
      | none =>
        have e : L = [] := by rw [← unhide HL, withBlockF, unhide HOK, unhide HLV, hpl]; rfl
        have HPL : Hid ((match placeO wd ht n C co ro cl with | some k => ((k : Int), true) | none => (0, false)) = (0, false)) := by unfold Hid; rw [hpl]
        clear hpl
        go_enter Try.func11, Try.ntmps11
        go_wp2_with fail
        rw [unhide HW]
        refine (unhide HCO).mono ?_
        rintro e w1 ⟨rfl, g1⟩
        have HW1 := hide ((unhide HW0).new g1)
        clear g1 HCO
        go_wp2_with fail
        refine (specLevel _ bn bc bl w1 ((unhide HBL).grown (unhide HW1).grown) true HLV).mono ?_
        rintro e w2 ⟨rfl, g2⟩
        have HW2 := hide ((unhide HW1).new g2)
        clear g2 HW1
        have z0 := (unhide HW2).cell.1 0
        have z1 := (unhide HW2).cell.1 1
        have z2 := (unhide HW2).cell.1 2
        have z3 := (unhide HW2).cell.1 3
        have z4 := (unhide HW2).cell.1 4
        have y0 := (unhide HW2).cell.2.2 0
        have y1 := (unhide HW2).cell.2.2 1
        have y2 := (unhide HW2).cell.2.2 2
        simp only [List.getElem?_toArray, List.getElem?_cons_zero, List.getElem?_cons_succ] at z0 z1 z2 z3 z4 y0 y1 y2
        go_wp2_with fail
        refine (specPlace p wd ht rs ao n cap C w2 ((unhide HR).grown (unhide HW2).grown) (unhide HG) co ro cl 0 false HPL).mono ?_
        rintro e w3 ⟨rfl, g3⟩
        have HW3 := hide ((unhide HW2).new g3)
        clear z0 z1 z2 z3 z4 y0 y1 y2
        clear g3 HW2
        have HE := hide (unhide HNIL e w3 (unhide HW3))
        have HFC := hide ((unhide HW3).fin (.slice none 0 0))
        have d0 := (unhide HFC).2.1
        have k0 := (unhide HFC).2.2.1
        clear HW3 HNIL e
        go_wp2
        refine bodyPost_ret (v := .agg #[.slice none 0 0]) (by have hcc := (unhide HFC).1; simp [results, Try.results11, go_sem, hcc]) rfl ?_
        exact ⟨_, [], rfl, unhide HE⟩
      | some k =>
        have HPL : Hid ((match placeO wd ht n C co ro cl with | some k => ((k : Int), true) | none => (0, false)) = ((k : Int), true)) := by unfold Hid; rw [hpl]
        have hLE : L = if hiddenI wd ht n C co.toNat ro cl then [] else X.set co.toNat ((X.getD co.toNat []).set k bl) := by rw [← unhide HL, withBlockF, unhide HOK, unhide HLV, hpl]; rfl
        obtain ⟨c, r, l, rfl, rfl, rfl, hcn, -, -, -, hkb⟩ := place_in hpl
        rw [Int.toNat_natCast] at hLE
        obtain ⟨hd, HHD⟩ : ∃ hd, Hid (hiddenI wd ht n C c r l = hd) := ⟨_, rfl⟩
        rw [unhide HHD] at hLE
        clear hpl
        cases hd with
        | true =>
          have e : L = [] := hLE
          clear hLE
          go_enter Try.func11, Try.ntmps11
          go_wp2_with fail
          rw [unhide HW]
          refine (unhide HCO).mono ?_
          rintro e w1 ⟨rfl, g1⟩
          have HW1 := hide ((unhide HW0).new g1)
          clear g1 HCO
          go_wp2_with fail
          refine (specLevel _ bn bc bl w1 ((unhide HBL).grown (unhide HW1).grown) true HLV).mono ?_
          rintro e w2 ⟨rfl, g2⟩
          have HW2 := hide ((unhide HW1).new g2)
          clear g2 HW1
          have z0 := (unhide HW2).cell.1 0
          have z1 := (unhide HW2).cell.1 1
          have z2 := (unhide HW2).cell.1 2
          have z3 := (unhide HW2).cell.1 3
          have z4 := (unhide HW2).cell.1 4
          have y0 := (unhide HW2).cell.2.2 0
          have y1 := (unhide HW2).cell.2.2 1
          have y2 := (unhide HW2).cell.2.2 2
          simp only [List.getElem?_toArray, List.getElem?_cons_zero, List.getElem?_cons_succ] at z0 z1 z2 z3 z4 y0 y1 y2
          go_wp2_with fail
          refine (specPlace p wd ht rs ao n cap C w2 ((unhide HR).grown (unhide HW2).grown) (unhide HG) c r l k true HPL).mono ?_
          rintro e w3 ⟨rfl, g3⟩
          have HW3 := hide ((unhide HW2).new g3)
          clear z0 z1 z2 z3 z4 y0 y1 y2
          clear g3 HW2
          have z0 := (unhide HW3).cell.1 0
          have z1 := (unhide HW3).cell.1 1
          have z2 := (unhide HW3).cell.1 2
          have z3 := (unhide HW3).cell.1 3
          have z4 := (unhide HW3).cell.1 4
          have y0 := (unhide HW3).cell.2.2 0
          have y1 := (unhide HW3).cell.2.2 1
          have y2 := (unhide HW3).cell.2.2 2
          simp only [List.getElem?_toArray, List.getElem?_cons_zero, List.getElem?_cons_succ] at z0 z1 z2 z3 z4 y0 y1 y2
          go_wp2_with fail
          refine (specHidden p wd ht rs ao n cap C w3 ((unhide HR).grown (unhide HW3).grown) (unhide HG) c hcn r l true HHD).mono ?_
          rintro e w5 ⟨rfl, g5⟩
          have HW5 := hide ((unhide HW3).new g5)
          clear z0 z1 z2 z3 z4 y0 y1 y2
          clear g5 HW3
          have HE := hide (unhide HNIL e w5 (unhide HW5))
          have HFC := hide ((unhide HW5).fin (.slice none 0 0))
          have d0 := (unhide HFC).2.1
          have k0 := (unhide HFC).2.2.1
          clear HW5 HNIL e
          go_wp2
          refine bodyPost_ret (v := .agg #[.slice none 0 0]) (by have hcc := (unhide HFC).1; simp [results, Try.results11, go_sem, hcc]) rfl ?_
          exact ⟨_, [], rfl, unhide HE⟩
        | false =>
          obtain ⟨hX, hXl, hXb⟩ := ok_plane (unhide HKB) c hcn
          have hkX : k < X[c].length := by omega
          have hLE2 : L = X.set c (X[c].set k bl) := by rw [hLE]; simp [hX]
          have hd128 := dims_of (unhide HG) c hcn
          have hn4 := (unhide HG).n4
          have hl64 := lev_len (unhide HLV)
          have hcm : (c : Int) < (m : Int) := by have := unhide HM; omega
          have HCP : Hid (∀ W, w.grownBy W none → Calls Try.prog 48 #[.agg #[.slice xo m xc]] W fun e w' => ∃ u F, e = .returned u ∧ OwCo w' u X F ∧ F.Nodup ∧ (∀ g ∈ F, W.heap.size ≤ g) ∧ W.grownBy w' none) := fun W gW => by
            refine specCopy _ X W (st3 _ _ _ _ (unhide HX) gW) ?_ ?_ ?_
            · have h1 := unhide HKB
              unfold coefsOkB at h1
              rw [Bool.and_eq_true] at h1
              have h2 : X.length = n := of_decide_eq_true h1.1
              omega
            · intro c' hc'
              have h1 := unhide HKB
              unfold coefsOkB at h1
              rw [Bool.and_eq_true] at h1
              have h2 : X.length = n := of_decide_eq_true h1.1
              obtain ⟨_, h3, _⟩ := ok_plane (unhide HKB) c' (by omega)
              have h4 := dims_of (unhide HG) c' (by omega)
              have h5 : bwG wd n C c' * bhG ht n C c' ≤ 128 * 128 := Nat.mul_le_mul h4.bw1.2 h4.bh1.2
              omega
            · intro c' hc' k' hk'
              have h1 := unhide HKB
              unfold coefsOkB at h1
              rw [Bool.and_eq_true] at h1
              have h2 : X.length = n := of_decide_eq_true h1.1
              obtain ⟨_, _, h3⟩ := ok_plane (unhide HKB) c' (by omega)
              exact block_len (h3 k' hk')
          clear hLE hXb hXl hkb hd128
          obtain ⟨zb, zoff, hzo, _⟩ := (unhide HBL).2 0 (by have := (unhide HBL).1; omega)
          subst hzo
          have hbn := (unhide HBL).1
          have hb64 : bn = 64 := by omega
          have HB64 := hide hb64
          clear hbn hb64 hl64
          have HL2 := hide hLE2
          clear hLE2
          go_enter Try.func11, Try.ntmps11
          go_wp2_with fail
          rw [unhide HW]
          refine (unhide HCO).mono ?_
          rintro e w1 ⟨rfl, g1⟩
          have HW1 := hide ((unhide HW0).new g1)
          clear g1 HCO
          go_wp2_with fail
          refine (specLevel _ bn bc bl w1 ((unhide HBL).grown (unhide HW1).grown) true HLV).mono ?_
          rintro e w2 ⟨rfl, g2⟩
          have HW2 := hide ((unhide HW1).new g2)
          clear g2 HW1
          have z0 := (unhide HW2).cell.1 0
          have z1 := (unhide HW2).cell.1 1
          have z2 := (unhide HW2).cell.1 2
          have z3 := (unhide HW2).cell.1 3
          have z4 := (unhide HW2).cell.1 4
          have y0 := (unhide HW2).cell.2.2 0
          have y1 := (unhide HW2).cell.2.2 1
          have y2 := (unhide HW2).cell.2.2 2
          simp only [List.getElem?_toArray, List.getElem?_cons_zero, List.getElem?_cons_succ] at z0 z1 z2 z3 z4 y0 y1 y2
          go_wp2_with fail
          refine (specPlace p wd ht rs ao n cap C w2 ((unhide HR).grown (unhide HW2).grown) (unhide HG) c r l k true HPL).mono ?_
          rintro e w3 ⟨rfl, g3⟩
          have HW3 := hide ((unhide HW2).new g3)
          clear z0 z1 z2 z3 z4 y0 y1 y2
          clear g3 HW2
          have z0 := (unhide HW3).cell.1 0
          have z1 := (unhide HW3).cell.1 1
          have z2 := (unhide HW3).cell.1 2
          have z3 := (unhide HW3).cell.1 3
          have z4 := (unhide HW3).cell.1 4
          have y0 := (unhide HW3).cell.2.2 0
          have y1 := (unhide HW3).cell.2.2 1
          have y2 := (unhide HW3).cell.2.2 2
          simp only [List.getElem?_toArray, List.getElem?_cons_zero, List.getElem?_cons_succ] at z0 z1 z2 z3 z4 y0 y1 y2
          go_wp2_with fail
          refine (specHidden p wd ht rs ao n cap C w3 ((unhide HR).grown (unhide HW3).grown) (unhide HG) c hcn r l false HHD).mono ?_
          rintro e w5 ⟨rfl, g5⟩
          have HW5 := hide ((unhide HW3).new g5)
          clear z0 z1 z2 z3 z4 y0 y1 y2
          clear g5 HW3
          have q1 := (unhide HW5).cell.2.1 0
          go_wp2_with fail
          refine (unhide HCP w5 (unhide HW5).grown).mono ?_
          rintro e w6 ⟨u6, F6, rfl, o6, n6, l6, g6⟩
          obtain ⟨v6, rfl, o6⟩ := o6
          obtain ⟨yo, yc, rfl⟩ := o6.form
          have HW6 := hide ((unhide HW5).new g6)
          rw [unhide HM] at o6 ⊢
          have HO6 := hide o6
          have HN6 := hide n6
          have HL6 : Hid (∀ g ∈ F6, w.heap.size + 4 ≤ g) := fun g hg => by have := l6 g hg; have := (unhide HW5).size; omega
          clear o6 n6 l6 g6 HCP q1
          obtain ⟨W7, HW7⟩ : ∃ W7, Hid (w6.alloc (.cells #[.slice yo m yc] 29) = W7) := ⟨_, rfl⟩
          have g7 : w6.grownBy W7 none := by rw [← unhide HW7]; exact World.grownBy_alloc _ _ _
          have hob : W7.heap[w6.heap.size]? = some (.cells #[.slice yo m yc] 29 (0, 0)) := by rw [← unhide HW7]; exact heap_alloc_new w6 _
          have H7 := hide ((unhide HW6).new g7)
          have HO7 := hide (ok3.keep (unhide HO6) g7)
          have HLT6 : Hid (∀ g ∈ F6, g < w6.heap.size) := ok3.lt _ _ _ _ (unhide HO6)
          have HZ7 := hide ((unhide HBL).grown (unhide H7).grown)
          obtain ⟨ob, HOB⟩ : ∃ ob, Hid (w6.heap.size = ob) := ⟨_, rfl⟩
          have hobl : w.heap.size + 4 ≤ ob := by rw [← unhide HOB]; exact (unhide HW6).size
          rw [unhide HOB] at hob HLT6
          obtain ⟨gy, ycap, uy, Fy, ey, cy, py, ny, sy, back⟩ := (unhide HO7).turn ok2 (unhide HN6) c hX
          obtain ⟨rfl, rfl⟩ : yo = some ⟨gy, 0, none⟩ ∧ yc = ycap := by simp at ey; exact ⟨ey.1, ey.2.2⟩
          obtain ⟨gz, zc2, uz, ez, cz, fz⟩ := py.slot k hkX
          subst ez
          obtain ⟨pl, HPLN⟩ : ∃ pl, Hid (X[c].length = pl) := ⟨_, hide rfl⟩
          have HPY := hide py
          rw [unhide HPLN] at cy HPY hkX
          have hkI : (k : Int) < (pl : Int) := by omega
          have a0 : W7.cell? ⟨ob, 0, none⟩ = some (.slice (some ⟨gy, 0, none⟩) m yc) := by rw [cell_of_row W7 _ 0 _ _ (0, 0) hob]; rfl
          have a1 : W7.cell? ⟨w.heap.size + 1 + 1, 0, none⟩ = some (.int .i64 (c : Int)) := (unhide H7).cell.2.2 0
          have HBK := hide back
          have HNY := hide ny
          have HSY := hide sy
          have HOBX := hide hob
          have HSS := hide (And.intro a0 (And.intro a1 cy))
          have HKEEP : Hid (∀ W, W7.grownBy W none → W.cell? ⟨ob, 0, none⟩ = some (.slice (some ⟨gy, 0, none⟩) m yc) ∧ W.cell? ⟨w.heap.size + 1 + 1, 0, none⟩ = some (.int .i64 (c : Int)) ∧ W.cell? ⟨gy, c, none⟩ = some (.slice (some ⟨gz, 0, none⟩) pl zc2)) := fun W g => ⟨g.cell a0 (by simp), g.cell a1 (by simp), g.cell cy (by simp)⟩
          clear HW6 HO6 HW5 g7 ey py back ny sy hob
          go_wp2
          rw [unhide HW7, unhide HOB]
          clear HW7
          refine wp_region_noPanic ?_
          refine wp_region_tailL 20 (fun w' => w'.cell? ⟨ob, 0, none⟩ = some (.slice (some ⟨gy, 0, none⟩) m yc) ∧ w'.cell? ⟨w.heap.size + 1 + 1, 0, none⟩ = some (.int .i64 (c : Int)) ∧ w'.cell? ⟨gy, c, none⟩ = some (.slice (some ⟨gz, 0, none⟩) pl zc2)) [true, true, true, true, true, true, true, false, true, false, false, false] (by kernel_rfl) (fun _ _ _ _ _ h => h) rfl (by decide) (by kernel_rfl) (unhide HSS) ?_
          iterate 7
            refine heldF_take (v := ?_) (Or.inl ⟨by rfl, ?_⟩) ?_
            rotate_left 1
            · intro w' hSw
              try dsimp only at hSw
              obtain ⟨s0, s1, s2⟩ := hSw
              go_simp
              try with_reducible rfl
            simp only [Act.put, List.setIfInBounds_toArray, List.set_cons_zero, List.set_cons_succ]
          refine heldF_skip ?_
          refine heldF_take (v := ?_) (Or.inl ⟨by rfl, ?_⟩) ?_
          rotate_left 1
          · intro w' hSw
            try dsimp only at hSw
            obtain ⟨s0, s1, s2⟩ := hSw
            go_simp
            try with_reducible rfl
          simp only [Act.put, List.setIfInBounds_toArray, List.set_cons_zero, List.set_cons_succ]
          refine heldF_skip (heldF_skip (heldF_skip (heldF_nil ?_)))
          iterate 7 refine tailL_skip ?_
          refine tailL_step (fun K hK => ?_)
          go_simp
          refine hK.out _ _ (.inr (unhide HKEEP _ (grown_drew (grown_alloc (World.grownBy.refl _ _) _)))) ?_
          clear hK K
          refine tailL_skip ?_
          refine tailL_step (fun K hK => ?_)
          refine step_append_copy (w := W7.drew) (by rfl) _ _ (by rfl) W7.heap.size (by rfl) (by rfl) ⟨zb, zoff, none⟩ bn bc bl (by rfl) ((unhide HZ7).grown (grown_drew (World.grownBy.refl _ _))) (by have := unhide HB64; omega) (by have := unhide HB64; omega) ?_
          intro g9 c9 w9 ho9 hg9 gr9
          have G9 := grown_trans (grown_drew (World.grownBy.refl W7 none)) gr9
          have HS9 := hide (unhide HKEEP w9 G9)
          have x0 : w9.cell? ⟨gz, k, none⟩ = some uz := G9.cell cz (by simp)
          have HP9 := hide (ok2.keep (unhide HPY) G9)
          have hgzF : gz ∈ Fy := OwR.memF (unhide HPY)
          have hgz4 : w.heap.size + 4 ≤ gz := unhide HL6 gz (unhide HSY gz hgzF)
          have hgzo : gz < ob := unhide HLT6 gz (unhide HSY gz hgzF)
          have x1 : w9.frozen? ⟨gz, k, none⟩ = false := by
            obtain ⟨g', c', u', e', _, f'⟩ := (unhide HP9).slot k (by rw [unhide HPLN]; exact hkX)
            have : g' = gz := by simp at e'; exact e'.1.symm
            rw [← this]; exact f'
          obtain ⟨vn, HVN⟩ : ∃ vn, Hid (Value.slice (some ⟨g9, 0, none⟩) bl.length c9 = vn) := ⟨_, rfl⟩
          rw [unhide HVN] at ho9
          obtain ⟨Fn, HPN, HNN, HMN⟩ : ∃ Fn, Hid (Ow2 (w9.setCell ⟨gz, k, none⟩ vn) (.slice (some ⟨gz, 0, none⟩) pl zc2) (X[c].set k bl) Fn) ∧ Hid Fn.Nodup ∧ Hid (∀ x ∈ Fn, x ∈ Fy ∨ x = g9) := by
            obtain ⟨Fn, h1, h2, h3⟩ := OwR.put (OwI.ok _ _) (unhide HP9) (unhide HNY) k (by rw [unhide HPLN]; exact hkX) (g := gz) rfl ho9 (blk_nodup _) (fun x hx hxF => by
              rw [← unhide HVN] at hx
              have e9 : g9 = x := Option.some.inj (mem_blk.1 hx)
              have := unhide HLT6 x (unhide HSY x hxF)
              have h7 := (Array.getElem?_eq_some_iff.1 (unhide HOBX)).1
              omega)
            refine ⟨Fn, h1, h2, fun x hx => (h3 x hx).imp id (fun h => ?_)⟩
            rw [← unhide HVN] at h
            exact (Option.some.inj (mem_blk.1 h)).symm
          obtain ⟨F9, HO9, HN9, HM9⟩ : ∃ F9, Hid (Ow3 (w9.setCell ⟨gz, k, none⟩ vn) (.slice (some ⟨gy, 0, none⟩) m yc) L F9) ∧ Hid F9.Nodup ∧ Hid (∀ x ∈ F9, w.heap.size + 4 ≤ x) := by
            have h7 := (Array.getElem?_eq_some_iff.1 (unhide HOBX)).1
            have hW : Wr Fy W7 (w9.setCell ⟨gz, k, none⟩ vn) := (Wr.ofNone G9).trans (Wr.ofRow (grown_set w9 gz k vn) (fun x hx => by have e9 : gz = x := Option.some.inj hx; rw [← e9]; exact hgzF))
            obtain ⟨F9, h1, h2, h3⟩ := unhide HBK _ (X[c].set k bl) Fn hW (by rw [unhide HPLN]; exact unhide HPN) (unhide HNN) (fun x hx => (unhide HMN x hx).imp id (fun e hxF => by have := unhide HLT6 x hxF; omega))
            rw [← unhide HL2] at h1
            refine ⟨F9, h1, h2, fun x hx => ?_⟩
            rcases h3 x hx with h | h
            · exact unhide HL6 x h
            · rcases unhide HMN x h with h | h
              · exact unhide HL6 x (unhide HSY x h)
              · omega
          have HWB := hide (((unhide H7).new G9).set hgz4 k vn)
          have HC9 : Hid ((w9.setCell ⟨gz, k, none⟩ vn).cell? ⟨ob, 0, none⟩ = some (.slice (some ⟨gy, 0, none⟩) m yc)) := (grown_set w9 gz k vn).cell (unhide HS9).1 (by simp; omega)
          have hvn := unhide HVN
          clear HVN
          subst hvn
          refine hK.out _ _ (.inr (unhide HS9)) ?_
          clear hK K ho9 gr9 G9 HBK HP9 HPN HPY HOBX HKEEP
          simp only [Act.put, List.setIfInBounds_toArray, List.set_cons_zero, List.set_cons_succ]
          refine tailL_step (fun K hK => ?_)
          go_simp
          refine hK.out _ _ (.inr (unhide HS9)) ?_
          clear hK K
          refine tailL_step (fun K hK => ?_)
          go_simp
          refine hK.out _ _ (.inl rfl) ?_
          clear hK K x0 x1
          refine tailL_nil (NoPanic.normal ?_)
          obtain ⟨W9, HW9⟩ : ∃ W9, Hid (w9.setCell ⟨gz, k, none⟩ (.slice (some ⟨g9, 0, none⟩) bl.length c9) = W9) := ⟨_, rfl⟩
          rw [unhide HW9] at HO9 HWB HC9 ⊢
          clear HW9
          have x9 := unhide HC9
          have HFC := hide ((unhide HWB).fin (.slice (some ⟨gy, 0, none⟩) m yc))
          have d0 := (unhide HFC).2.1
          have k0 := (unhide HFC).2.2.1
          go_wp2
          refine bodyPost_ret (v := .agg #[.slice (some ⟨gy, 0, none⟩) m yc]) (by have hcc := (unhide HFC).1; simp [results, Try.results11, go_sem, hcc]) rfl ?_
          refine ⟨_, F9, rfl, ⟨_, rfl, ok3.wr (unhide HO9) (Wr.ofRow (F := [w.heap.size + 1 + 1 + 1]) (grown_set W9 _ 0 _) (fun x hx => by have := Option.some.inj hx; simp [this])) (fun x hx e => ?_)⟩, unhide HN9, fun x hx => ?_, (unhide HFC).2.2.2⟩
          · have := unhide HM9 x hx
            simp at e
            omega
          · have := unhide HM9 x hx
            omega

end Go.Proofs.Ytibgldanmhckiaa
