/-
  GiveWith, GiveBlocks.
-/
import Derived.Test.YtibgldanmhckiaaMFl

namespace Go.Proofs.Ytibgldanmhckiaa
open Go.RowKit Go.Shelf

theorem upW_le {n d b : Int} (hn : 1 ≤ n) (hd : 1 ≤ d) (h : n ≤ b * d) : upI n d ≤ b := by
  unfold upI
  rw [Int.tdiv_eq_ediv_of_nonneg (by omega)]
  refine Int.le_of_lt_add_one ((Int.ediv_lt_iff_lt_mul (by omega)).2 ?_)
  rw [Int.add_mul, Int.one_mul]
  omega
theorem le_upW {n d : Int} (hn : 1 ≤ n) (hd : 1 ≤ d) : n ≤ upI n d * d := by
  unfold upI
  rw [Int.tdiv_eq_ediv_of_nonneg (by omega)]
  have h1 := Int.mul_ediv_add_emod (n + d - 1) d
  have h2 := Int.emod_lt_of_pos (n + d - 1) (show 0 < d by omega)
  rw [Int.mul_comm] at h1
  omega
/-- The blocks that are needed lie within the units' blocks. -/
theorem neededW_le {wd m s : Int} (hw : 1 ≤ wd) (hm : 1 ≤ m) (hs : 1 ≤ s) : upI (upI (wd * s) m) 8 ≤ upI wd (8 * m) * s := by
  have h1 := le_upW (n := wd) (d := 8 * m) hw (by omega)
  have h0 : 1 ≤ wd * s := by
    have := Int.mul_le_mul hw hs (by omega) (by omega)
    omega
  have h2 : wd * s ≤ upI wd (8 * m) * (8 * m) * s := Int.mul_le_mul_of_nonneg_right h1 (by omega)
  have e : upI wd (8 * m) * (8 * m) * s = upI wd (8 * m) * s * 8 * m := by
    rw [Int.mul_assoc (upI wd (8 * m)) (8 * m) s, Int.mul_comm (8 * m) s, ← Int.mul_assoc, ← Int.mul_assoc]
  have h3 : upI (wd * s) m ≤ upI wd (8 * m) * s * 8 := upW_le h0 hm (by omega)
  exact upW_le (upI_pos h0 hm).1 (by omega) h3

theorem need_in {wd ht : Int} {n : Nat} {C : Nat → Nat → Int} (hg : Geo wd ht n C (mostA 1 C 1 n) (mostA 1 C 2 n)) (c : Nat) (hc : c < n) : nwG wd n C c ≤ bwG wd n C c ∧ nhG ht n C c ≤ bhG ht n C c := by
  have h1 := neededW_le (s := C c 1) hg.wd.1 hg.hb.1 (hg.ch c hc).1
  have h2 := neededW_le (s := C c 2) hg.ht.1 hg.vb.1 (hg.cv c hc).1
  have d := dims_of hg c hc
  rw [d.bw, d.nw] at h1
  rw [d.bh, d.nh] at h2
  omega
theorem cell_first {w : World} {g : Nat} {v : Value} {t : TypeId} (h : w.heap[g]? = some (.cells #[v] t (0, 0))) : w.cell? ⟨g, 0, none⟩ = some v := by rw [cell_of_row w _ 0 _ _ (0, 0) h]; rfl
theorem coefs_set (G : List Gd) (c a b : Nat) (L : List (List Int)) : coefsG (G.set c (a, b, L)) = (coefsG G).set c L := by
  unfold coefsG
  rw [List.map_set]

set_option maxRecDepth 100000 in
set_option maxHeartbeats 3200000 in
theorem giveWith : ImplWith := by
  intro p wd ht rs ao n cap C v Y co ro cl bo bn bc bl w hr hn hY hsz hbl hbn fb HFB Z HZ
  obtain ⟨W0, hW0⟩ : ∃ W0, (((w.alloc (.cells #[.int .i64 p, .int .i64 wd, .int .i64 ht, .int .i64 rs, .slice ao n cap] 26)).alloc (.cells #[v] 29)).alloc (.cells #[.int .i64 co, .int .i64 ro, .int .i64 cl] 31)).alloc (.cells #[.slice none 0 0] 29) = W0 := ⟨_, rfl⟩
  have G0 : w.grownBy W0 none := by rw [← hW0]; exact grown_alloc (grown_alloc (grown_alloc (World.grownBy_alloc _ _ _) _) _) _
  have s0 : W0.heap.size = w.heap.size + 4 := by rw [← hW0]; simp
  have p2 : W0.heap[w.heap.size + 1 + 1]? = some (.cells #[.int .i64 co, .int .i64 ro, .int .i64 cl] 31 (0, 0)) := by
    rw [← hW0, Below.heap_alloc _ _ _ (by simp)]
    have := heap_alloc_new ((w.alloc (.cells #[.int .i64 p, .int .i64 wd, .int .i64 ht, .int .i64 rs, .slice ao n cap] 26)).alloc (.cells #[v] 29)) (.cells #[.int .i64 co, .int .i64 ro, .int .i64 cl] 31)
    simpa using this
  have p3 : W0.heap[w.heap.size + 1 + 1 + 1]? = some (.cells #[.slice none 0 0] 29 (0, 0)) := by
    rw [← hW0]
    have := heap_alloc_new (((w.alloc (.cells #[.int .i64 p, .int .i64 wd, .int .i64 ht, .int .i64 rs, .slice ao n cap] 26)).alloc (.cells #[v] 29)).alloc (.cells #[.int .i64 co, .int .i64 ro, .int .i64 cl] 31)) (.cells #[.slice none 0 0] 29)
    simpa using this
  have HR := hide (hr.grown G0)
  have HYR := hide (RdR.st (RdR.st (RdI.st .i64)) _ _ _ _ hY G0)
  have HBL := hide (hbl.grown G0)
  have HW := hide hW0
  have HG0 := hide G0
  have P2 := hide p2
  have P3 := hide p3
  have HS0 := hide s0
  clear hr hY hW0 G0 p2 p3 hbl s0
  obtain ⟨b, HB⟩ : ∃ b, Hid (coefsOkF fb wd ht n C Y = b) := ⟨_, rfl⟩
  obtain ⟨lb, HLB⟩ : ∃ lb, Hid (levB (-16383) 16383 bl = lb) := ⟨_, rfl⟩
  go_enter Try.func10, Try.ntmps10
  go_wp2_with fail
  rw [unhide HW]
  clear HW
  refine (fixCoefs p wd ht rs ao n cap C v Y W0 (unhide HR) hn (unhide HYR) fb b HFB HB).mono ?_
  rintro e w1 ⟨A, rfl, hA, g1⟩
  obtain ⟨hs, ho⟩ := hA.shape
  have HSA := hide hs
  have HOA := hide ho
  have HB1 := hide (heap_alloc_new w1 (.cells #[.int .i64 0, .int .i64 0, .int .i64 0, .int .i64 0, .int .i64 0, .int .i64 0, .int .i64 0, .int .i64 0, .int .i64 0, .int .i64 0, .int .i64 0, .int .i64 0, .int .i64 0, .int .i64 0, .int .i64 0, .int .i64 0, .int .i64 0, .int .i64 0, .int .i64 0, .int .i64 0, .int .i64 0, .slice none 0 0] 76))
  have G1 := hide g1
  have HST : Hid (∀ w3 : World, w3.heap[w1.heap.size]? = some (.cells A 76 (0, 0)) → (w1.alloc (.cells #[.int .i64 0, .int .i64 0, .int .i64 0, .int .i64 0, .int .i64 0, .int .i64 0, .int .i64 0, .int .i64 0, .int .i64 0, .int .i64 0, .int .i64 0, .int .i64 0, .int .i64 0, .int .i64 0, .int .i64 0, .int .i64 0, .int .i64 0, .int .i64 0, .int .i64 0, .int .i64 0, .int .i64 0, .slice none 0 0] 76)).grownBy w3 (some w1.heap.size) → w1.grownBy w3 none) := by
    intro w3 hB3 g3
    exact grown_new (World.grownBy_alloc w1 (.cells #[.int .i64 0, .int .i64 0, .int .i64 0, .int .i64 0, .int .i64 0, .int .i64 0, .int .i64 0, .int .i64 0, .int .i64 0, .int .i64 0, .int .i64 0, .int .i64 0, .int .i64 0, .int .i64 0, .int .i64 0, .int .i64 0, .int .i64 0, .int .i64 0, .int .i64 0, .int .i64 0, .int .i64 0, .slice none 0 0] 76) none) g3 (fun q e => by simp at e; omega)
  have HA := hide hA
  clear hA hs ho g1
  go_wp2_with (refine store_row rfl 76 _ _ rfl w1.heap.size rfl A rfl #[.int .i64 0, .int .i64 0, .int .i64 0, .int .i64 0, .int .i64 0, .int .i64 0, .int .i64 0, .int .i64 0, .int .i64 0, .int .i64 0, .int .i64 0, .int .i64 0, .int .i64 0, .int .i64 0, .int .i64 0, .int .i64 0, .int .i64 0, .int .i64 0, .int .i64 0, .int .i64 0, .int .i64 0, .slice none 0 0] 76 (unhide HB1) (by rw [unhide HSA]; rfl) (by rw [unhide HSA]; kernel_rfl) (unhide HOA) ?_; intro w3 hB3 g3; have HG13 := hide (unhide HST w3 hB3 g3); have HB3 := hide hB3; clear g3 hB3)
  refine (fixLevels bo bn bc bl w3 ((unhide HBL).grown (grown_trans (unhide G1) (unhide HG13))) lb HLB).mono ?_
  rintro e w4 ⟨⟨ys, rfl, hyl, hyz⟩, g4⟩
  have hb4 := heap_alloc_new w4 (.cells #[.int .i64 0, .int .i64 0, .int .i64 0, .int .i64 0, .int .i64 0, .int .i64 0, .int .i64 0, .int .i64 0, .int .i64 0, .int .i64 0, .int .i64 0, .int .i64 0, .int .i64 0, .int .i64 0, .int .i64 0, .int .i64 0, .int .i64 0, .int .i64 0, .int .i64 0, .int .i64 0, .int .i64 0, .int .i64 0, .int .i64 0, .int .i64 0, .int .i64 0, .int .i64 0, .int .i64 0, .int .i64 0, .int .i64 0, .int .i64 0, .int .i64 0, .int .i64 0, .int .i64 0, .int .i64 0, .int .i64 0, .int .i64 0, .int .i64 0, .int .i64 0, .int .i64 0, .int .i64 0, .int .i64 0, .int .i64 0, .int .i64 0, .int .i64 0, .int .i64 0, .int .i64 0, .int .i64 0, .int .i64 0, .int .i64 0, .int .i64 0, .int .i64 0, .int .i64 0, .int .i64 0, .int .i64 0, .int .i64 0, .int .i64 0, .int .i64 0, .int .i64 0, .int .i64 0, .int .i64 0, .int .i64 0, .int .i64 0, .int .i64 0, .int .i64 0] 80)
  have HB4 := hide hb4
  have HSY : Hid ((sq ys).size = 64) := by unfold Hid; rw [sq_size, hyl]
  have S5 : Hid (∀ w5 : World, w5.heap[w4.heap.size]? = some (.cells (sq ys) 80 (0, 0)) → (w4.alloc (.cells #[.int .i64 0, .int .i64 0, .int .i64 0, .int .i64 0, .int .i64 0, .int .i64 0, .int .i64 0, .int .i64 0, .int .i64 0, .int .i64 0, .int .i64 0, .int .i64 0, .int .i64 0, .int .i64 0, .int .i64 0, .int .i64 0, .int .i64 0, .int .i64 0, .int .i64 0, .int .i64 0, .int .i64 0, .int .i64 0, .int .i64 0, .int .i64 0, .int .i64 0, .int .i64 0, .int .i64 0, .int .i64 0, .int .i64 0, .int .i64 0, .int .i64 0, .int .i64 0, .int .i64 0, .int .i64 0, .int .i64 0, .int .i64 0, .int .i64 0, .int .i64 0, .int .i64 0, .int .i64 0, .int .i64 0, .int .i64 0, .int .i64 0, .int .i64 0, .int .i64 0, .int .i64 0, .int .i64 0, .int .i64 0, .int .i64 0, .int .i64 0, .int .i64 0, .int .i64 0, .int .i64 0, .int .i64 0, .int .i64 0, .int .i64 0, .int .i64 0, .int .i64 0, .int .i64 0, .int .i64 0, .int .i64 0, .int .i64 0, .int .i64 0, .int .i64 0] 80)).grownBy w5 (some w4.heap.size) → w1.grownBy w5 none ∧ W0.grownBy w5 none ∧ w5.heap[w1.heap.size]? = some (.cells A 76 (0, 0)) ∧ w5.heap[w.heap.size + 1 + 1]? = some (.cells #[.int .i64 co, .int .i64 ro, .int .i64 cl] 31 (0, 0)) ∧ w5.heap[w.heap.size + 1 + 1 + 1]? = some (.cells #[.slice none 0 0] 29 (0, 0))) := by
    intro w5 hB5 g5
    have g45 : w4.grownBy w5 none := grown_new (World.grownBy_alloc w4 (.cells #[.int .i64 0, .int .i64 0, .int .i64 0, .int .i64 0, .int .i64 0, .int .i64 0, .int .i64 0, .int .i64 0, .int .i64 0, .int .i64 0, .int .i64 0, .int .i64 0, .int .i64 0, .int .i64 0, .int .i64 0, .int .i64 0, .int .i64 0, .int .i64 0, .int .i64 0, .int .i64 0, .int .i64 0, .int .i64 0, .int .i64 0, .int .i64 0, .int .i64 0, .int .i64 0, .int .i64 0, .int .i64 0, .int .i64 0, .int .i64 0, .int .i64 0, .int .i64 0, .int .i64 0, .int .i64 0, .int .i64 0, .int .i64 0, .int .i64 0, .int .i64 0, .int .i64 0, .int .i64 0, .int .i64 0, .int .i64 0, .int .i64 0, .int .i64 0, .int .i64 0, .int .i64 0, .int .i64 0, .int .i64 0, .int .i64 0, .int .i64 0, .int .i64 0, .int .i64 0, .int .i64 0, .int .i64 0, .int .i64 0, .int .i64 0, .int .i64 0, .int .i64 0, .int .i64 0, .int .i64 0, .int .i64 0, .int .i64 0, .int .i64 0, .int .i64 0] 80) none) g5 (fun q e => by simp at e; omega)
    have g35 := grown_trans g4 g45
    have g15 := grown_trans (unhide HG13) g35
    have g05 := grown_trans (unhide G1) g15
    exact ⟨g15, g05, grown_atT g35 (unhide HB3) (by simp), grown_atT g05 (unhide P2) (by simp), grown_atT g05 (unhide P3) (by simp)⟩
  have HYL := hide hyl
  have HYZ := hide hyz
  clear hb4 hyl hyz g4
  have hand : (b && lb) = false → Z = [] := fun h => by
    rw [← unhide HZ]
    unfold withBlockF
    rw [unhide HB, unhide HLB, h]
    rfl
  have HAND := hide hand
  clear hand
  cases b
  · have hZ := unhide HAND rfl
    go_wp2_with (refine store_row rfl 80 _ _ rfl w4.heap.size rfl (sq ys) rfl #[.int .i64 0, .int .i64 0, .int .i64 0, .int .i64 0, .int .i64 0, .int .i64 0, .int .i64 0, .int .i64 0, .int .i64 0, .int .i64 0, .int .i64 0, .int .i64 0, .int .i64 0, .int .i64 0, .int .i64 0, .int .i64 0, .int .i64 0, .int .i64 0, .int .i64 0, .int .i64 0, .int .i64 0, .int .i64 0, .int .i64 0, .int .i64 0, .int .i64 0, .int .i64 0, .int .i64 0, .int .i64 0, .int .i64 0, .int .i64 0, .int .i64 0, .int .i64 0, .int .i64 0, .int .i64 0, .int .i64 0, .int .i64 0, .int .i64 0, .int .i64 0, .int .i64 0, .int .i64 0, .int .i64 0, .int .i64 0, .int .i64 0, .int .i64 0, .int .i64 0, .int .i64 0, .int .i64 0, .int .i64 0, .int .i64 0, .int .i64 0, .int .i64 0, .int .i64 0, .int .i64 0, .int .i64 0, .int .i64 0, .int .i64 0, .int .i64 0, .int .i64 0, .int .i64 0, .int .i64 0, .int .i64 0, .int .i64 0, .int .i64 0, .int .i64 0] 80 (unhide HB4) (by rw [unhide HSY]; rfl) (by rw [unhide HSY]; kernel_rfl) (sq_one _) ?_; intro w5 hB5 g5; obtain ⟨g15, g05, a5, q5, r5⟩ := unhide S5 w5 hB5 g5; have k5 := cell_first r5; have f5 := frozen_of_row w5 (w.heap.size + 1 + 1 + 1) 0 _ _ r5; have R5 := hide r5; have G05 := hide g05; have G15 := hide g15; have A5 := hide a5; have Q5 := hide q5; have Y5 := hide hB5; clear hB5 g5 g15 g05 a5 q5 r5)
    have hR := heap_setCell_same w5 (w.heap.size + 1 + 1 + 1) 0 _ _ (.slice none 0 0) (unhide R5)
    have s0 := unhide HS0
    refine bodyPost_ret (v := .agg #[.slice none 0 0]) ?_ rfl ⟨_, [], rfl, by rw [hZ]; exact ⟨_, rfl, OwR.nil _ _ _⟩, List.nodup_nil, (fun g hg => by simp at hg), ?_⟩
    · rw [results_c1 rfl]
      exact run_loadVar_row _ _ 29 29 _ (0, 0) _ hR Try.underlying29 rfl (by kernel_rfl)
    · exact grown_new (grown_trans (unhide HG0) (unhide G05)) (grown_set w5 (w.heap.size + 1 + 1 + 1) 0 (.slice none 0 0)) (fun q e => by simp at e; omega)
  · cases lb
    · have hZ := unhide HAND rfl
      go_wp2_with (refine store_row rfl 80 _ _ rfl w4.heap.size rfl (sq ys) rfl #[.int .i64 0, .int .i64 0, .int .i64 0, .int .i64 0, .int .i64 0, .int .i64 0, .int .i64 0, .int .i64 0, .int .i64 0, .int .i64 0, .int .i64 0, .int .i64 0, .int .i64 0, .int .i64 0, .int .i64 0, .int .i64 0, .int .i64 0, .int .i64 0, .int .i64 0, .int .i64 0, .int .i64 0, .int .i64 0, .int .i64 0, .int .i64 0, .int .i64 0, .int .i64 0, .int .i64 0, .int .i64 0, .int .i64 0, .int .i64 0, .int .i64 0, .int .i64 0, .int .i64 0, .int .i64 0, .int .i64 0, .int .i64 0, .int .i64 0, .int .i64 0, .int .i64 0, .int .i64 0, .int .i64 0, .int .i64 0, .int .i64 0, .int .i64 0, .int .i64 0, .int .i64 0, .int .i64 0, .int .i64 0, .int .i64 0, .int .i64 0, .int .i64 0, .int .i64 0, .int .i64 0, .int .i64 0, .int .i64 0, .int .i64 0, .int .i64 0, .int .i64 0, .int .i64 0, .int .i64 0, .int .i64 0, .int .i64 0, .int .i64 0, .int .i64 0] 80 (unhide HB4) (by rw [unhide HSY]; rfl) (by rw [unhide HSY]; kernel_rfl) (sq_one _) ?_; intro w5 hB5 g5; obtain ⟨g15, g05, a5, q5, r5⟩ := unhide S5 w5 hB5 g5; have k5 := cell_first r5; have f5 := frozen_of_row w5 (w.heap.size + 1 + 1 + 1) 0 _ _ r5; have R5 := hide r5; have G05 := hide g05; have G15 := hide g15; have A5 := hide a5; have Q5 := hide q5; have Y5 := hide hB5; clear hB5 g5 g15 g05 a5 q5 r5)
      have hR := heap_setCell_same w5 (w.heap.size + 1 + 1 + 1) 0 _ _ (.slice none 0 0) (unhide R5)
      have s0 := unhide HS0
      refine bodyPost_ret (v := .agg #[.slice none 0 0]) ?_ rfl ⟨_, [], rfl, by rw [hZ]; exact ⟨_, rfl, OwR.nil _ _ _⟩, List.nodup_nil, (fun g hg => by simp at hg), ?_⟩
      · rw [results_c1 rfl]
        exact run_loadVar_row _ _ 29 29 _ (0, 0) _ hR Try.underlying29 rfl (by kernel_rfl)
      · exact grown_new (grown_trans (unhide HG0) (unhide G05)) (grown_set w5 (w.heap.size + 1 + 1 + 1) 0 (.slice none 0 0)) (fun q e => by simp at e; omega)
    · have hfb : fb = true := by
        have h := unhide HB
        unfold coefsOkF at h
        rw [Bool.and_eq_true] at h
        exact h.1
      subst hfb
      have hok : coefsOkB wd ht n C Y = true := by
        have h := unhide HB
        unfold coefsOkF at h
        rw [Bool.and_eq_true] at h
        exact h.2
      obtain ⟨hn4, hYl, hdm⟩ := ok_dims (unhide HFB) hok
      obtain ⟨X, D, gv, F, rfl, hF, hD, hO, hN, hL⟩ := (unhide HA).2 rfl
      have hgC := geo_of (unhide HFB)
      have hgD := hgC.congr hD
      have em : mostA 1 C 1 n = mostA 1 D 1 n := (mostA_congr n hD).symm
      have ev : mostA 1 C 2 n = mostA 1 D 2 n := (mostA_congr n hD).symm
      rw [em, ev] at hgD
      obtain ⟨hb64, _⟩ := lev_at (unhide HLB)
      obtain rfl : ys = bl := unhide HYZ (by rw [← (unhide HBL).1]; exact hb64)
      obtain ⟨t, HT⟩ : ∃ t, Hid ((decide (0 ≤ co ∧ co ≤ (n : Int) - 1) && (decide (0 ≤ ro ∧ ro ≤ (nhG ht n D co.toNat : Int) - 1) && decide (0 ≤ cl ∧ cl ≤ (nwG wd n D co.toNat : Int) - 1))) = t) := ⟨_, rfl⟩
      have SH : Hid (∀ W, Calls Try.prog 42 #[.agg (plV X gv), .agg #[.int .i64 co, .int .i64 ro, .int .i64 cl]] W fun e w' => e = .returned (.bool t) ∧ W.grownBy w' none) := fun W => planesShows X p wd ht rs n D hF hgD gv co ro cl t HT W
      have HO := hide hO
      have HN := hide hN
      have HDM := hide hdm
      have HSX := hide hF.size
      have HLO := hide hL
      have HNI : Hid (∀ c, c < n → nwG wd n C c ≤ bwG wd n C c ∧ nhG ht n C c ≤ bhG ht n C c ∧ nwG wd n D c = nwG wd n C c ∧ nhG ht n D c = nhG ht n C c) := fun c hc => by
        obtain ⟨_, _, e3, e4⟩ := dims_congr (wd := wd) (ht := ht) hD c hc
        obtain ⟨n1, n2⟩ := need_in hgC c hc
        exact ⟨n1, n2, e3, e4⟩
      have HZ2 : Hid (Z = (match placeO wd ht n C co ro cl with | some k => if hiddenI wd ht n C co.toNat ro cl then [] else Y.set co.toNat ((Y.getD co.toNat []).set k ys) | none => [])) := by
        unfold Hid
        rw [← unhide HZ]
        unfold withBlockF
        rw [unhide HB, unhide HLB]
        rfl
      clear hF hO hN hL hdm hgC hgD hD hok HA em ev
      go_wp2_with (first | (refine store_row rfl 80 _ _ rfl w4.heap.size rfl (sq ys) rfl #[.int .i64 0, .int .i64 0, .int .i64 0, .int .i64 0, .int .i64 0, .int .i64 0, .int .i64 0, .int .i64 0, .int .i64 0, .int .i64 0, .int .i64 0, .int .i64 0, .int .i64 0, .int .i64 0, .int .i64 0, .int .i64 0, .int .i64 0, .int .i64 0, .int .i64 0, .int .i64 0, .int .i64 0, .int .i64 0, .int .i64 0, .int .i64 0, .int .i64 0, .int .i64 0, .int .i64 0, .int .i64 0, .int .i64 0, .int .i64 0, .int .i64 0, .int .i64 0, .int .i64 0, .int .i64 0, .int .i64 0, .int .i64 0, .int .i64 0, .int .i64 0, .int .i64 0, .int .i64 0, .int .i64 0, .int .i64 0, .int .i64 0, .int .i64 0, .int .i64 0, .int .i64 0, .int .i64 0, .int .i64 0, .int .i64 0, .int .i64 0, .int .i64 0, .int .i64 0, .int .i64 0, .int .i64 0, .int .i64 0, .int .i64 0, .int .i64 0, .int .i64 0, .int .i64 0, .int .i64 0, .int .i64 0, .int .i64 0, .int .i64 0, .int .i64 0] 80 (unhide HB4) (by rw [unhide HSY]; rfl) (by rw [unhide HSY]; kernel_rfl) (sq_one _) ?_; intro w5 hB5 g5; obtain ⟨g15, g05, a5, q5, r5⟩ := unhide S5 w5 hB5 g5; have k5 := cell_first r5; have f5 := frozen_of_row w5 (w.heap.size + 1 + 1 + 1) 0 _ _ r5; have R5 := hide r5; have G05 := hide g05; have G15 := hide g15; have A5 := hide a5; have Q5 := hide q5; have Y5 := hide hB5; clear hB5 g5 g15 g05 a5 q5 r5) | (first | (refine load_row rfl 76 _ rfl w1.heap.size rfl (plV X gv) 76 (unhide A5) _ Try.underlying76 rfl (by rw [plV_size (unhide HSX)]; kernel_rfl) ?_) | (refine load_row rfl 31 _ rfl (w.heap.size + 1 + 1) rfl _ 31 (unhide Q5) _ Try.underlying31 rfl (by kernel_rfl) ?_) | (refine load_row rfl 80 _ rfl w4.heap.size rfl (sq ys) 80 (unhide Y5) _ Try.underlying80 rfl (by rw [unhide HSY]; kernel_rfl) ?_)))
      refine (unhide SH w5).mono ?_
      rintro e w6 ⟨rfl, g6⟩
      have A6 := hide (grown_atT g6 (unhide A5) (by simp))
      have Q6 := hide (grown_atT g6 (unhide Q5) (by simp))
      have Y6 := hide (grown_atT g6 (unhide Y5) (by simp))
      have r6 := grown_atT g6 (unhide R5) (by simp)
      have k6 := cell_first r6
      have f6 := frozen_of_row w6 (w.heap.size + 1 + 1 + 1) 0 _ _ r6
      have R6 := hide r6
      have G06 := hide (grown_trans (unhide G05) g6)
      have G16 := hide (grown_trans (unhide G15) g6)
      clear r6 g6 k5 f5 SH A5 Q5 Y5 R5 G05 G15 S5 HB4 HST HB1 HB3
      cases t
      · have hZ : Z = [] := by
          rw [unhide HZ2]
          have h := unhide HT
          by_cases h1 : 0 ≤ co ∧ co ≤ (n : Int) - 1
          · obtain ⟨n1, n2, n3, n4⟩ := unhide HNI co.toNat (by omega)
            rw [n3, n4] at h
            by_cases h2 : hiddenI wd ht n C co.toNat ro cl = true
            · rw [h2]
              split <;> rfl
            · have h3 : placeO wd ht n C co ro cl = none := by
                unfold placeO
                rw [if_pos h1, if_neg]
                rintro ⟨h4, h5⟩
                unfold hiddenI at h2
                simp only [Bool.or_eq_true, decide_eq_true_eq, not_or] at h2
                have e1 : decide (0 ≤ co ∧ co ≤ (n : Int) - 1) = true := decide_eq_true h1
                have e2 : decide (0 ≤ ro ∧ ro ≤ (nhG ht n C co.toNat : Int) - 1) = true := decide_eq_true (by omega)
                have e3 : decide (0 ≤ cl ∧ cl ≤ (nwG wd n C co.toNat : Int) - 1) = true := decide_eq_true (by omega)
                rw [e1, e2, e3] at h
                exact absurd h (by decide)
              rw [h3]
          · have h3 : placeO wd ht n C co ro cl = none := by
              unfold placeO
              rw [if_neg h1]
            rw [h3]
        go_wp2
        have hR := heap_setCell_same w6 (w.heap.size + 1 + 1 + 1) 0 _ _ (.slice none 0 0) (unhide R6)
        have s0 := unhide HS0
        refine bodyPost_ret (v := .agg #[.slice none 0 0]) ?_ rfl ⟨_, [], rfl, by rw [hZ]; exact ⟨_, rfl, OwR.nil _ _ _⟩, List.nodup_nil, (fun g hg => by simp at hg), ?_⟩
        · rw [results_c1 rfl]
          exact run_loadVar_row _ _ 29 29 _ (0, 0) _ hR Try.underlying29 rfl (by kernel_rfl)
        · exact grown_new (grown_trans (unhide HG0) (unhide G06)) (grown_set w6 (w.heap.size + 1 + 1 + 1) 0 (.slice none 0 0)) (fun q e => by simp at e; omega)
      · have h := unhide HT
        rw [Bool.and_eq_true, Bool.and_eq_true, decide_eq_true_eq, decide_eq_true_eq, decide_eq_true_eq] at h
        obtain ⟨h1, h2, h3⟩ := h
        obtain ⟨c, rfl⟩ := Int.eq_ofNat_of_zero_le h1.1
        obtain ⟨r, rfl⟩ := Int.eq_ofNat_of_zero_le h2.1
        obtain ⟨l, rfl⟩ := Int.eq_ofNat_of_zero_le h3.1
        have hc : c < n := by omega
        obtain ⟨n1, n2, n3, n4⟩ := unhide HNI c hc
        rw [Int.toNat_natCast, n4] at h2
        rw [Int.toNat_natCast, n3] at h3
        obtain ⟨d1, d2, d3, d4⟩ := unhide HDM c hc
        have hkl : r * bwG wd n C c + l < (Y.getD c []).length := by
          rw [d3, Nat.mul_comm (bwG wd n C c)]
          have hr1 : r + 1 ≤ bhG ht n C c := by omega
          have := Nat.mul_le_mul_right (bwG wd n C c) hr1
          rw [Nat.add_mul, Nat.one_mul] at this
          omega
        have hZ : Z = Y.set c ((Y.getD c []).set (r * bwG wd n C c + l) ys) := by
          rw [unhide HZ2]
          have hp : placeO wd ht n C (c : Int) (r : Int) (l : Int) = some (r * bwG wd n C c + l) := by
            unfold placeO
            rw [if_pos h1, Int.toNat_natCast, if_pos ⟨⟨by omega, by omega⟩, ⟨by omega, by omega⟩⟩, Int.toNat_natCast, Int.toNat_natCast]
          have hh : hiddenI wd ht n C (c : Int).toNat (r : Int) (l : Int) = false := by
            unfold hiddenI
            rw [Int.toNat_natCast, Bool.or_eq_false_iff, decide_eq_false_iff_not, decide_eq_false_iff_not]
            omega
          rw [hp, hh, Int.toNat_natCast]
          rfl
        have PU : Hid (Calls Try.prog 43 #[.agg (plV X gv), .agg #[.int .i64 (c : Int), .int .i64 (r : Int), .int .i64 (l : Int)], .agg (sq ys)] w6 fun e w' => (∃ v, e = .returned v) ∧ ∃ F', OwGr w' gv ((gridsOf wd ht n C Y).set c (bwG wd n C c, bhG ht n C c, (Y.getD c []).set (r * bwG wd n C c + l) ys)) F' ∧ F'.Nodup ∧ (∀ x ∈ F', x ∈ F) ∧ ∃ g ∈ F, Wr [g] w6 w') := by
          have := planesPut X (unhide HSX) gv (gridsOf wd ht n C Y) F w6 (okGr.keep (unhide HO) (unhide G16)) (unhide HN) c r l (r * bwG wd n C c + l) (by rw [gridsOf_len]; exact hc) (by rw [gridsOf_at _ _ _ _ _ _ hc]; dsimp only; omega) (by omega) (by omega) (by unfold Hid; rw [gridsOf_at _ _ _ _ _ _ hc]) (by rw [gridsOf_at _ _ _ _ _ _ hc]; exact hkl) ys hb64
          rw [gridsOf_at _ _ _ _ _ _ hc] at this
          exact this
        have hcf : coefsG ((gridsOf wd ht n C Y).set c (bwG wd n C c, bhG ht n C c, (Y.getD c []).set (r * bwG wd n C c + l) ys)) = Z := by rw [coefs_set, coefs_gridsOf hYl, hZ]
        have hlen : ((gridsOf wd ht n C Y).set c (bwG wd n C c, bhG ht n C c, (Y.getD c []).set (r * bwG wd n C c + l) ys)).length = n := by rw [List.length_set, gridsOf_len]
        have hbd : ∀ c', c' < n → (((gridsOf wd ht n C Y).set c (bwG wd n C c, bhG ht n C c, (Y.getD c []).set (r * bwG wd n C c + l) ys)).getD c' (0, 0, [])).1 ≤ 1024 ∧ (((gridsOf wd ht n C Y).set c (bwG wd n C c, bhG ht n C c, (Y.getD c []).set (r * bwG wd n C c + l) ys)).getD c' (0, 0, [])).2.1 ≤ 1024 ∧ (((gridsOf wd ht n C Y).set c (bwG wd n C c, bhG ht n C c, (Y.getD c []).set (r * bwG wd n C c + l) ys)).getD c' (0, 0, [])).2.2.length ≤ 1000000 := fun c' hc' => by
          obtain ⟨b1, b2, b3, _⟩ := unhide HDM c' hc'
          have hm := Nat.mul_le_mul b1 b2
          by_cases e : c = c'
          · subst e
            have e9 : ((gridsOf wd ht n C Y).set c (bwG wd n C c, bhG ht n C c, (Y.getD c []).set (r * bwG wd n C c + l) ys)).getD c (0, 0, []) = (bwG wd n C c, bhG ht n C c, (Y.getD c []).set (r * bwG wd n C c + l) ys) := by simp [gridsOf_len, hc']
            rw [e9]
            dsimp only
            rw [List.length_set, b3]
            omega
          · have e9 : ((gridsOf wd ht n C Y).set c (bwG wd n C c, bhG ht n C c, (Y.getD c []).set (r * bwG wd n C c + l) ys)).getD c' (0, 0, []) = (gridsOf wd ht n C Y).getD c' (0, 0, []) := by simp [e]
            rw [e9, gridsOf_at _ _ _ _ _ _ hc']
            dsimp only
            rw [b3]
            omega
        generalize (gridsOf wd ht n C Y).set c (bwG wd n C c, bhG ht n C c, (Y.getD c []).set (r * bwG wd n C c + l) ys) = G' at *
        have HCF := hide hcf
        have HLN' := hide hlen
        have HBD := hide hbd
        clear hZ hkl d1 d2 d3 d4 h1 h2 h3 HT HZ HZ2 hcf hlen hbd n1 n2 n3 n4 k6 f6
        go_wp2_with (first | (refine load_row rfl 76 _ rfl w1.heap.size rfl (plV X gv) 76 (unhide A6) _ Try.underlying76 rfl (by rw [plV_size (unhide HSX)]; kernel_rfl) ?_) | (refine load_row rfl 31 _ rfl (w.heap.size + 1 + 1) rfl _ 31 (unhide Q6) _ Try.underlying31 rfl (by kernel_rfl) ?_) | (refine load_row rfl 80 _ rfl w4.heap.size rfl (sq ys) 80 (unhide Y6) _ Try.underlying80 rfl (by rw [unhide HSY]; kernel_rfl) ?_))
        refine (unhide PU).mono ?_
        rintro e w7 ⟨⟨v7, rfl⟩, F7, o7, n7, m7, g, hgF, w7r⟩
        have hg1 := unhide HLO g hgF
        have hgl := okGr.lt _ _ _ _ (unhide HO) g hgF
        have hs0 := unhide HS0
        have hs1 := (unhide G1).size
        have h06 := (unhide G06).size
        have hw16 := (unhide G16).size
        have hb6 : w1.heap.size < w6.heap.size := (Array.getElem?_eq_some_iff.1 (unhide A6)).1
        have a7 : w7.heap[w1.heap.size]? = some (.cells (plV X gv) 76 (0, 0)) := (w7r.block _ hb6 (fun e => by simp at e; omega)).trans (unhide A6)
        have r7 : w7.heap[w.heap.size + 1 + 1 + 1]? = some (.cells #[.slice none 0 0] 29 (0, 0)) := (w7r.block _ (by omega) (fun e => by simp at e; omega)).trans (unhide R6)
        have G07 : Hid (W0.grownBy w7 none) := Wr.new (unhide G06) w7r (fun x hx => by simp at hx; omega)
        have A7 := hide a7
        have R7 := hide r7
        have CO : Hid (Calls Try.prog 44 #[.agg (plV X gv)] w7 fun e w' => ∃ u F', e = .returned u ∧ OwCo w' u Z F' ∧ F'.Nodup ∧ (∀ g ∈ F', w7.heap.size ≤ g) ∧ w7.grownBy w' none) := by
          unfold Hid
          rw [← unhide HCF]
          exact planesCoefs X (unhide HSX) gv G' F7 w7 o7 n7 (by rw [unhide HLN']; exact hn4) (fun c' hc' => unhide HBD c' (by rw [unhide HLN'] at hc'; exact hc'))
        have hs7 := (unhide G07).size
        clear o7 n7 m7 w7r a7 r7 PU A6 R6 hg1 hgl hs1 h06 hw16 hb6 hs0
        go_wp2_with (refine load_row rfl 76 _ rfl w1.heap.size rfl (plV X gv) 76 (unhide A7) _ Try.underlying76 rfl (by rw [plV_size (unhide HSX)]; kernel_rfl) ?_)
        refine (unhide CO).mono ?_
        rintro e w8 ⟨u, F8, rfl, ⟨cv, rfl, o8⟩, n8, l8, g8⟩
        obtain ⟨vo, vc, rfl⟩ := o8.form
        have G08 := hide (grown_trans (unhide G07) g8)
        have r8 := grown_atT g8 (unhide R7) (by simp)
        have k8 := cell_first r8
        have f8 := frozen_of_row w8 (w.heap.size + 1 + 1 + 1) 0 _ _ r8
        obtain ⟨ln, HLN⟩ : ∃ ln, Hid (Z.length = ln) := ⟨_, rfl⟩
        rw [unhide HLN] at o8 ⊢
        have gs := grown_set w8 (w.heap.size + 1 + 1 + 1) 0 (.slice vo ln vc)
        have HR9 := hide (heap_setCell_same w8 (w.heap.size + 1 + 1 + 1) 0 _ _ (.slice vo ln vc) r8)
        have O8 := hide o8
        have L8 := hide l8
        have N8 := hide n8
        clear CO o8 l8 n8 g8 r8
        go_wp2
        generalize w8.setCell ⟨w.heap.size + 1 + 1 + 1, 0, none⟩ (.slice vo ln vc) = w9 at *
        have s0 := unhide HS0
        refine bodyPost_ret (v := .agg #[.slice vo ln vc]) ?_ rfl ⟨_, F8, rfl, ⟨_, rfl, ?_⟩, unhide N8, fun x hx => by have := unhide L8 x hx; omega, ?_⟩
        · rw [results_c1 rfl]
          exact run_loadVar_row w9 _ 29 29 _ (0, 0) _ (unhide HR9) Try.underlying29 rfl (by kernel_rfl)
        · exact ok3.wr (unhide O8) (Wr.ofRow (F := [w.heap.size + 1 + 1 + 1]) gs (fun q e => by have e9 := Option.some.inj e; simp [e9])) (fun x hx e => by simp at e; have := unhide L8 x hx; omega)
        · exact grown_new (grown_trans (unhide HG0) (unhide G08)) gs (fun q e => by simp at e; omega)

end Go.Proofs.Ytibgldanmhckiaa


