/-
  Waves in the program: rounding, the basis, a square turned about.
-/
import Derived.Test.YtoeehfjbnbbijabDoorWaveOk
import Derived.Test.YtoeehfjbnbbijabDoorWavePure
namespace Go.Proofs.YtoeehfjbnbbijabDoor
open Go.RowKit Go.Shelf

theorem divDown (n u : Int) (hn : -4000000000000000 ≤ n ∧ n ≤ 4000000000000000) (hu : Hid (n / 33554432 = u)) (w : World) :
    Calls Tryd.prog 43 #[.int .i64 n, .int .i64 33554432] w fun e w' => e = .returned (.int .i64 u) ∧ w = w' := by
  by_cases h : 0 ≤ n
  · have h1 : n.tmod 33554432 = n % 33554432 := Int.tmod_eq_emod_of_nonneg h
    have h2 : n.tdiv 33554432 = n / 33554432 := Int.tdiv_eq_ediv_of_nonneg h
    have h3 : decide (n % 33554432 < 0) = false := by simp; omega
    go_enter Tryd.func43, Tryd.ntmps43
    go_wp2
    go_ret
    exact ⟨ret_int (unhide hu), rfl⟩
  · obtain ⟨m, rfl⟩ : ∃ m, n = -m := ⟨-n, by omega⟩
    have h1 : (-m).tmod 33554432 = -(m % 33554432) := by rw [Int.neg_tmod, Int.tmod_eq_emod_of_nonneg (by omega)]
    have h2 : (-m).tdiv 33554432 = -(m / 33554432) := by rw [Int.neg_tdiv, Int.tdiv_eq_ediv_of_nonneg (by omega)]
    have hu' : u = (-m) / 33554432 := (unhide hu).symm
    by_cases h3 : m % 33554432 = 0
    · have h4 : decide (-(m % 33554432) < 0) = false := by simp; omega
      have h5 : -(m / 33554432) = u := by omega
      clear hu' hu
      go_enter Tryd.func43, Tryd.ntmps43
      go_wp2
      go_ret
      exact ⟨ret_int (by omega), rfl⟩
    · have h4 : decide (-(m % 33554432) < 0) = true := by simp; omega
      have h5 : -(m / 33554432) - 1 = u := by omega
      clear hu' hu
      go_enter Tryd.func43, Tryd.ntmps43
      go_wp2
      go_ret
      exact ⟨ret_int (by omega), rfl⟩

theorem unscaled (n u : Int) (hn : -1000000000000000 ≤ n ∧ n ≤ 1000000000000000) (hu : Hid (roundI n = u)) (w : World) :
    Calls Tryd.prog 37 #[.int .i64 n] w fun e w' => e = .returned (.int .i64 u) ∧ w = w' := by
  have HU : Hid ((2 * n + 16777216) / 33554432 = u) := unhide hu
  clear hu
  go_enter Tryd.func37, Tryd.ntmps37
  go_wp2_with fail
  refine (divDown (2 * n + 16777216) u (by omega) HU w).mono ?_
  rintro e w1 ⟨rfl, rfl⟩
  go_wp2
  go_ret
  exact ⟨rfl, rfl⟩

/-- A wave from its top down to nought. -/
def qwL : List Int := [2048, 2009, 1892, 1703, 1448, 1138, 784, 400, 0]
def qw (k : Nat) : Int := qwL.getD k 0
theorem qw_in : ∀ k, k < 9 → 0 ≤ qw k ∧ qw k ≤ 2048 := by decide
/-- How high a wave is m steps behind its top, m being less than 32. -/
def wvAt (m : Nat) : Int := if m ≤ 8 then qw m else if m ≤ 16 then -qw (16 - m) else if m ≤ 24 then -qw (m - 16) else qw (32 - m)
theorem wv_at : ∀ k, k < 64 → 0 < k / 8 → wvAt ((2 * (k % 8) + 1) * (k / 8) % 32) = wv k := by decide
theorem wv_flat : ∀ k, k < 64 → ¬ 0 < k / 8 → wv k = 1448 := by decide
theorem wv_made : made wv = wvL := by rfl

/-- The package's variable as the program's text lays it. -/
def Qw (w : World) : Prop := ∀ i, i < 9 → w.cell? ⟨0, i, none⟩ = some (.int .i64 (qw i))
theorem Qw.grown {w w' : World} (h : Qw w) (g : w.grownBy w' none) : Qw w' := fun i hi => g.cell (h i hi) (by simp)

set_option maxHeartbeats 400000 in
theorem waveAt (s : Nat) (hs : s ≤ 1000) (w : World) (hq : Qw w) :
    Calls Tryd.prog 40 #[.int .i64 (s : Int)] w fun e w' => e = .returned (.int .i64 (wvAt (s % 32))) ∧ w = w' := by
  obtain ⟨m, hm⟩ : ∃ m, s % 32 = m := ⟨_, rfl⟩
  have hm32 : m < 32 := by omega
  have hmI : (s : Int) % 32 = (m : Int) := by omega
  rw [hm]
  clear hm
  by_cases h8 : m ≤ 8
  · have hc := hq m (by omega)
    have hv : wvAt m = qw m := by unfold wvAt; rw [if_pos h8]
    have hb := qw_in m (by omega)
    rw [hv]
    clear hq hv
    generalize qw m = z at *
    go_enter Tryd.func40, Tryd.ntmps40
    go_wp2
    go_ret
    exact ⟨rfl, rfl⟩
  · by_cases h16 : m ≤ 16
    · obtain ⟨j, hj⟩ : ∃ j, 16 - m = j := ⟨_, rfl⟩
      have hjI : (16 : Int) - (m : Int) = (j : Int) := by omega
      have hc := hq j (by omega)
      have hv : wvAt m = -qw j := by unfold wvAt; rw [if_neg h8, if_pos h16, hj]
      have hb := qw_in j (by omega)
      rw [hv]
      clear hq hv
      generalize qw j = z at *
      go_enter Tryd.func40, Tryd.ntmps40
      go_wp2
      go_ret
      exact ⟨rfl, rfl⟩
    · by_cases h24 : m ≤ 24
      · obtain ⟨j, hj⟩ : ∃ j, m - 16 = j := ⟨_, rfl⟩
        have hjI : (m : Int) - 16 = (j : Int) := by omega
        have hc := hq j (by omega)
        have hv : wvAt m = -qw j := by unfold wvAt; rw [if_neg h8, if_neg h16, if_pos h24, hj]
        have hb := qw_in j (by omega)
        rw [hv]
        clear hq hv
        generalize qw j = z at *
        go_enter Tryd.func40, Tryd.ntmps40
        go_wp2
        go_ret
        exact ⟨rfl, rfl⟩
      · obtain ⟨j, hj⟩ : ∃ j, 32 - m = j := ⟨_, rfl⟩
        have hjI : (32 : Int) - (m : Int) = (j : Int) := by omega
        have hc := hq j (by omega)
        have hv : wvAt m = qw j := by unfold wvAt; rw [if_neg h8, if_neg h16, if_neg h24, hj]
        have hb := qw_in j (by omega)
        rw [hv]
        clear hq hv
        generalize qw j = z at *
        go_enter Tryd.func40, Tryd.ntmps40
        go_wp2
        go_ret
        exact ⟨rfl, rfl⟩

theorem sq_set (zs : List Int) (j : Nat) (v : Int) : (sq zs).setIfInBounds j (.int .i64 v) = sq (zs.set j v) := by simp [sq]

set_option maxRecDepth 20000 in
set_option maxHeartbeats 1600000 in
theorem waveBasis (w : World) (hq : Qw w) :
    Calls Tryd.prog 22 #[] w fun e w' => e = .returned (.agg (sq wvL)) ∧ w.grownBy w' none := by
  obtain ⟨W0, hW0⟩ : ∃ W0, (w.alloc (.cells #[.int .i64 0, .int .i64 0, .int .i64 0, .int .i64 0, .int .i64 0, .int .i64 0, .int .i64 0, .int .i64 0, .int .i64 0, .int .i64 0, .int .i64 0, .int .i64 0, .int .i64 0, .int .i64 0, .int .i64 0, .int .i64 0, .int .i64 0, .int .i64 0, .int .i64 0, .int .i64 0, .int .i64 0, .int .i64 0, .int .i64 0, .int .i64 0, .int .i64 0, .int .i64 0, .int .i64 0, .int .i64 0, .int .i64 0, .int .i64 0, .int .i64 0, .int .i64 0, .int .i64 0, .int .i64 0, .int .i64 0, .int .i64 0, .int .i64 0, .int .i64 0, .int .i64 0, .int .i64 0, .int .i64 0, .int .i64 0, .int .i64 0, .int .i64 0, .int .i64 0, .int .i64 0, .int .i64 0, .int .i64 0, .int .i64 0, .int .i64 0, .int .i64 0, .int .i64 0, .int .i64 0, .int .i64 0, .int .i64 0, .int .i64 0, .int .i64 0, .int .i64 0, .int .i64 0, .int .i64 0, .int .i64 0, .int .i64 0, .int .i64 0, .int .i64 0] 35)).alloc (.cells #[.int .i64 0, .int .i64 0, .int .i64 0, .int .i64 0, .int .i64 0, .int .i64 0, .int .i64 0, .int .i64 0, .int .i64 0, .int .i64 0, .int .i64 0, .int .i64 0, .int .i64 0, .int .i64 0, .int .i64 0, .int .i64 0, .int .i64 0, .int .i64 0, .int .i64 0, .int .i64 0, .int .i64 0, .int .i64 0, .int .i64 0, .int .i64 0, .int .i64 0, .int .i64 0, .int .i64 0, .int .i64 0, .int .i64 0, .int .i64 0, .int .i64 0, .int .i64 0, .int .i64 0, .int .i64 0, .int .i64 0, .int .i64 0, .int .i64 0, .int .i64 0, .int .i64 0, .int .i64 0, .int .i64 0, .int .i64 0, .int .i64 0, .int .i64 0, .int .i64 0, .int .i64 0, .int .i64 0, .int .i64 0, .int .i64 0, .int .i64 0, .int .i64 0, .int .i64 0, .int .i64 0, .int .i64 0, .int .i64 0, .int .i64 0, .int .i64 0, .int .i64 0, .int .i64 0, .int .i64 0, .int .i64 0, .int .i64 0, .int .i64 0, .int .i64 0] 35) = W0 := ⟨_, rfl⟩
  have G0 : w.grownBy W0 none := by rw [← hW0]; exact grown_alloc (World.grownBy_alloc _ _ _) _
  have b0 : W0.heap[w.heap.size]? = some (.cells (sq zs64) 35 (0, 0)) := by rw [← hW0, sq_z64, Below.heap_alloc _ _ _ (by simp)]; exact heap_alloc_new w _
  have b1 : W0.heap[w.heap.size + 1]? = some (.cells #[.int .i64 0, .int .i64 0, .int .i64 0, .int .i64 0, .int .i64 0, .int .i64 0, .int .i64 0, .int .i64 0, .int .i64 0, .int .i64 0, .int .i64 0, .int .i64 0, .int .i64 0, .int .i64 0, .int .i64 0, .int .i64 0, .int .i64 0, .int .i64 0, .int .i64 0, .int .i64 0, .int .i64 0, .int .i64 0, .int .i64 0, .int .i64 0, .int .i64 0, .int .i64 0, .int .i64 0, .int .i64 0, .int .i64 0, .int .i64 0, .int .i64 0, .int .i64 0, .int .i64 0, .int .i64 0, .int .i64 0, .int .i64 0, .int .i64 0, .int .i64 0, .int .i64 0, .int .i64 0, .int .i64 0, .int .i64 0, .int .i64 0, .int .i64 0, .int .i64 0, .int .i64 0, .int .i64 0, .int .i64 0, .int .i64 0, .int .i64 0, .int .i64 0, .int .i64 0, .int .i64 0, .int .i64 0, .int .i64 0, .int .i64 0, .int .i64 0, .int .i64 0, .int .i64 0, .int .i64 0, .int .i64 0, .int .i64 0, .int .i64 0, .int .i64 0] 35 (0, 0)) := by
    rw [← hW0]
    have := heap_alloc_new (w.alloc (.cells #[.int .i64 0, .int .i64 0, .int .i64 0, .int .i64 0, .int .i64 0, .int .i64 0, .int .i64 0, .int .i64 0, .int .i64 0, .int .i64 0, .int .i64 0, .int .i64 0, .int .i64 0, .int .i64 0, .int .i64 0, .int .i64 0, .int .i64 0, .int .i64 0, .int .i64 0, .int .i64 0, .int .i64 0, .int .i64 0, .int .i64 0, .int .i64 0, .int .i64 0, .int .i64 0, .int .i64 0, .int .i64 0, .int .i64 0, .int .i64 0, .int .i64 0, .int .i64 0, .int .i64 0, .int .i64 0, .int .i64 0, .int .i64 0, .int .i64 0, .int .i64 0, .int .i64 0, .int .i64 0, .int .i64 0, .int .i64 0, .int .i64 0, .int .i64 0, .int .i64 0, .int .i64 0, .int .i64 0, .int .i64 0, .int .i64 0, .int .i64 0, .int .i64 0, .int .i64 0, .int .i64 0, .int .i64 0, .int .i64 0, .int .i64 0, .int .i64 0, .int .i64 0, .int .i64 0, .int .i64 0, .int .i64 0, .int .i64 0, .int .i64 0, .int .i64 0] 35)) (.cells #[.int .i64 0, .int .i64 0, .int .i64 0, .int .i64 0, .int .i64 0, .int .i64 0, .int .i64 0, .int .i64 0, .int .i64 0, .int .i64 0, .int .i64 0, .int .i64 0, .int .i64 0, .int .i64 0, .int .i64 0, .int .i64 0, .int .i64 0, .int .i64 0, .int .i64 0, .int .i64 0, .int .i64 0, .int .i64 0, .int .i64 0, .int .i64 0, .int .i64 0, .int .i64 0, .int .i64 0, .int .i64 0, .int .i64 0, .int .i64 0, .int .i64 0, .int .i64 0, .int .i64 0, .int .i64 0, .int .i64 0, .int .i64 0, .int .i64 0, .int .i64 0, .int .i64 0, .int .i64 0, .int .i64 0, .int .i64 0, .int .i64 0, .int .i64 0, .int .i64 0, .int .i64 0, .int .i64 0, .int .i64 0, .int .i64 0, .int .i64 0, .int .i64 0, .int .i64 0, .int .i64 0, .int .i64 0, .int .i64 0, .int .i64 0, .int .i64 0, .int .i64 0, .int .i64 0, .int .i64 0, .int .i64 0, .int .i64 0, .int .i64 0, .int .i64 0] 35)
    simpa using this
  have s0 : W0.heap.size = w.heap.size + 2 := by rw [← hW0]; simp
  have HW := hide hW0
  have B0 := hide b0
  have B1 := hide b1
  have HG0 := hide G0
  have HQ := hide hq
  clear hW0 b0 b1 G0 hq
  go_enter Tryd.func22, Tryd.ntmps22
  go_wp2_with (rw [unhide HW]; clear HW; refine store_row rfl 35 _ _ rfl (w.heap.size + 1) rfl #[.int .i64 0, .int .i64 0, .int .i64 0, .int .i64 0, .int .i64 0, .int .i64 0, .int .i64 0, .int .i64 0, .int .i64 0, .int .i64 0, .int .i64 0, .int .i64 0, .int .i64 0, .int .i64 0, .int .i64 0, .int .i64 0, .int .i64 0, .int .i64 0, .int .i64 0, .int .i64 0, .int .i64 0, .int .i64 0, .int .i64 0, .int .i64 0, .int .i64 0, .int .i64 0, .int .i64 0, .int .i64 0, .int .i64 0, .int .i64 0, .int .i64 0, .int .i64 0, .int .i64 0, .int .i64 0, .int .i64 0, .int .i64 0, .int .i64 0, .int .i64 0, .int .i64 0, .int .i64 0, .int .i64 0, .int .i64 0, .int .i64 0, .int .i64 0, .int .i64 0, .int .i64 0, .int .i64 0, .int .i64 0, .int .i64 0, .int .i64 0, .int .i64 0, .int .i64 0, .int .i64 0, .int .i64 0, .int .i64 0, .int .i64 0, .int .i64 0, .int .i64 0, .int .i64 0, .int .i64 0, .int .i64 0, .int .i64 0, .int .i64 0, .int .i64 0] rfl #[.int .i64 0, .int .i64 0, .int .i64 0, .int .i64 0, .int .i64 0, .int .i64 0, .int .i64 0, .int .i64 0, .int .i64 0, .int .i64 0, .int .i64 0, .int .i64 0, .int .i64 0, .int .i64 0, .int .i64 0, .int .i64 0, .int .i64 0, .int .i64 0, .int .i64 0, .int .i64 0, .int .i64 0, .int .i64 0, .int .i64 0, .int .i64 0, .int .i64 0, .int .i64 0, .int .i64 0, .int .i64 0, .int .i64 0, .int .i64 0, .int .i64 0, .int .i64 0, .int .i64 0, .int .i64 0, .int .i64 0, .int .i64 0, .int .i64 0, .int .i64 0, .int .i64 0, .int .i64 0, .int .i64 0, .int .i64 0, .int .i64 0, .int .i64 0, .int .i64 0, .int .i64 0, .int .i64 0, .int .i64 0, .int .i64 0, .int .i64 0, .int .i64 0, .int .i64 0, .int .i64 0, .int .i64 0, .int .i64 0, .int .i64 0, .int .i64 0, .int .i64 0, .int .i64 0, .int .i64 0, .int .i64 0, .int .i64 0, .int .i64 0, .int .i64 0] 35 (unhide B1) rfl (by kernel_rfl) (by rw [← sq_z64]; exact sq_one _) ?_; intro w3 hB3 g3; rw [← sq_z64] at hB3)
  have s3 := g3.size
  go_loopw [6] (fun i wr => ∃ k : Nat, k ≤ 64 ∧ i = .int .i64 k ∧ wr.heap[w.heap.size + 1]? = some (.cells (sq (mix wv zs64 k)) 35 (0, 0)) ∧ w3.grownBy wr (some (w.heap.size + 1))) (fun i _ => 64 - (intOf i).toNat)
  case atStart => exact ⟨0, Nat.zero_le _, rfl, by rw [mix_zero]; exact hB3, World.grownBy.refl _ _⟩
  case round =>
    obtain ⟨k, hk, rfl, hM, hgk⟩ := hrel
    by_cases hlt : k < 64
    · have hlen : (mix wv zs64 k).length = 64 := (mix_len wv zs64 _ (by rw [zs64_len]; omega)).trans zs64_len
      have cM := sq_cell hM k (by omega)
      have fM := sq_frozen hM k
      have hMv : Hid (∀ (W : World) (v : Int), v = wv k → W.heap[w.heap.size + 1]? = some (.cells ((sq (mix wv zs64 k)).setIfInBounds k (.int .i64 v)) 35 (0, 0)) → W.heap[w.heap.size + 1]? = some (.cells (sq (mix wv zs64 (k + 1))) 35 (0, 0))) := by
        rintro W v rfl h
        rw [h, mix_set wv zs64 k (by rw [zs64_len]; omega)]
      have hM1 := heap_setCell_same wr (w.heap.size + 1) k _ _ (.int .i64 1448) hM
      have g1 := grown_trans hgk (grown_set wr (w.heap.size + 1) k (.int .i64 1448))
      by_cases h0 : 0 < k / 8
      · obtain ⟨s, hs⟩ : ∃ s : Nat, (2 * (k % 8) + 1) * (k / 8) = s := ⟨_, rfl⟩
        have hsb : s ≤ 105 := by
          rw [← hs]
          exact Nat.mul_le_mul (show 2 * (k % 8) + 1 ≤ 15 by omega) (show k / 8 ≤ 7 by omega)
        have hsI : (2 * ((k : Int) % 8) + 1) * ((k : Int) / 8) = (s : Int) := by rw [← hs]; simp
        have hpos : (0 : Int) < (k : Int) / 8 := by omega
        obtain ⟨W1, hW1⟩ : ∃ W1, wr.setCell ⟨w.heap.size + 1, k, none⟩ (.int .i64 1448) = W1 := ⟨_, rfl⟩
        rw [hW1] at hM1 g1
        have HW1 := hide hW1
        clear hW1
        have hM1' := hM1
        rw [sq_set] at hM1'
        have c1 := sq_cell hM1' k (by simp; omega)
        have f1 := sq_frozen hM1' k
        have hQ1 : Hid (Qw W1) := (unhide HQ).grown (grown_new (unhide HG0) (grown_trans g3 g1) (fun g e => by simp at e; omega))
        have hM2 := heap_setCell_same W1 (w.heap.size + 1) k _ _ (.int .i64 (wv k)) hM1'
        have hM2' : Hid ((W1.setCell ⟨w.heap.size + 1, k, none⟩ (.int .i64 (wv k))).heap[w.heap.size + 1]? = some (.cells (sq (mix wv zs64 (k + 1))) 35 (0, 0))) := by
          refine unhide hMv _ _ rfl ?_
          rw [hM2, sq_set, sq_set, List.set_set]
        have g2 := grown_trans g1 (grown_set W1 (w.heap.size + 1) k (.int .i64 (wv k)))
        have HG2 := hide g2
        have hat : Hid (wvAt (s % 32) = wv k) := by unfold Hid; rw [← hs]; exact wv_at k hlt h0
        clear hM hM1 hM1' hM2 hgk g1 g2 hlen hs hMv
        go_wp2_with fail
        rw [unhide HW1]
        refine (waveAt s (by omega) W1 (unhide hQ1)).mono ?_
        rintro e w9 ⟨rfl, rfl⟩
        rw [unhide hat]
        go_wp2
        go_roundw
        case rel => exact ⟨k + 1, by omega, by go_num, unhide hM2', unhide HG2⟩
        case measure => simp [intOf]; omega
      · have hneg : ¬ (0 : Int) < (k : Int) / 8 := by omega
        have hM2 := hide (unhide hMv _ _ (wv_flat k hlt h0).symm hM1)
        have HG1 := hide g1
        clear hM hM1 hgk g1 hlen hMv
        go_wp2
        go_roundw
        case rel => exact ⟨k + 1, by omega, by go_num, unhide hM2, unhide HG1⟩
        case measure => simp [intOf]; omega
    · obtain rfl : k = 64 := by omega
      rw [mix_all wv zs64 zs64_len, wv_made] at hM
      have hbr := (hgk.block w.heap.size (by have := g3.size; omega) (by simp)).trans ((g3.block w.heap.size (by omega) (by simp)).trans (unhide B0))
      have HM := hide hM
      have HBR := hide hbr
      have HMS : Hid ((sq wvL).size = 64) := by unfold Hid; rw [sq_size, wv_len]
      have HGF : Hid (w.grownBy wr none) := grown_new (unhide HG0) (grown_trans g3 hgk) (fun g e => by simp at e; omega)
      clear hM hbr hgk g3
      go_wp2_with (first | (refine load_row rfl 35 _ rfl (w.heap.size + 1) rfl (sq wvL) 35 (unhide HM) _ Tryd.underlying35 rfl (by rw [unhide HMS]; kernel_rfl) ?_) | (refine store_row rfl 35 _ _ rfl w.heap.size rfl (sq wvL) rfl (sq zs64) 35 (unhide HBR) (by rw [unhide HMS, sq_size, zs64_len]) (by rw [unhide HMS]; kernel_rfl) (sq_one _) ?_; intro w4 hB4 g4))
      refine bodyPost_ret (v := .agg (sq wvL)) ?_ rfl ⟨rfl, ?_⟩
      · rw [results_c1 rfl]
        exact run_loadVar_row w4 _ 35 35 _ (0, 0) _ hB4 Tryd.underlying35 rfl (by rw [unhide HMS]; kernel_rfl)
      · exact grown_new (unhide HGF) g4 (fun g e => by simp at e; omega)

/-- A square turned about: rows as columns. -/
def tr (p : Nat) : Nat := 8 * (p % 8) + p / 8
theorem tr_lt (p : Nat) (h : p < 64) : tr p < 64 := by unfold tr; omega
theorem tr_tr (p : Nat) (h : p < 64) : tr (tr p) = p := by unfold tr; omega
def turnedL (zs : List Int) : List Int := made (fun p => zs.getD (tr p) 0)
def turnTo (zs : List Int) (k : Nat) : List Int := made (fun p => if tr p < k then zs.getD (tr p) 0 else 0)
theorem turn_zero (zs : List Int) : turnTo zs 0 = zs64 := by
  simp only [turnTo, Nat.not_lt_zero, if_false]
  rfl
theorem turn_all (zs : List Int) : turnTo zs 64 = turnedL zs := made_congr (fun p hp => if_pos (tr_lt p hp))
theorem turn_set (zs : List Int) (k : Nat) (h : k < 64) : (sq (turnTo zs k)).setIfInBounds (tr k) (.int .i64 (zs.getD k 0)) = sq (turnTo zs (k + 1)) := by
  unfold turnTo
  rw [made_set _ _ _ (tr_lt k h)]
  congr 1
  apply made_congr
  intro p hp
  by_cases e : p = tr k
  · subst e; simp [tr_tr k h]
  · have hne : tr p ≠ k := fun e2 => e (by rw [← e2, tr_tr p hp])
    by_cases h1 : tr p < k
    · simp [e, h1, show tr p < k + 1 by omega]
    · simp [e, h1, show ¬ tr p < k + 1 by omega]

set_option maxRecDepth 20000 in
set_option maxHeartbeats 1600000 in
theorem turned (zs : List Int) (hz : zs.length = 64) (w : World) :
    Calls Tryd.prog 36 #[.agg (sq zs)] w fun e w' => e = .returned (.agg (sq (turnedL zs))) ∧ w.grownBy w' none := by
  obtain ⟨W0, hW0⟩ : ∃ W0, ((w.alloc (.cells (sq zs) 35)).alloc (.cells #[.int .i64 0, .int .i64 0, .int .i64 0, .int .i64 0, .int .i64 0, .int .i64 0, .int .i64 0, .int .i64 0, .int .i64 0, .int .i64 0, .int .i64 0, .int .i64 0, .int .i64 0, .int .i64 0, .int .i64 0, .int .i64 0, .int .i64 0, .int .i64 0, .int .i64 0, .int .i64 0, .int .i64 0, .int .i64 0, .int .i64 0, .int .i64 0, .int .i64 0, .int .i64 0, .int .i64 0, .int .i64 0, .int .i64 0, .int .i64 0, .int .i64 0, .int .i64 0, .int .i64 0, .int .i64 0, .int .i64 0, .int .i64 0, .int .i64 0, .int .i64 0, .int .i64 0, .int .i64 0, .int .i64 0, .int .i64 0, .int .i64 0, .int .i64 0, .int .i64 0, .int .i64 0, .int .i64 0, .int .i64 0, .int .i64 0, .int .i64 0, .int .i64 0, .int .i64 0, .int .i64 0, .int .i64 0, .int .i64 0, .int .i64 0, .int .i64 0, .int .i64 0, .int .i64 0, .int .i64 0, .int .i64 0, .int .i64 0, .int .i64 0, .int .i64 0] 35)).alloc (.cells #[.int .i64 0, .int .i64 0, .int .i64 0, .int .i64 0, .int .i64 0, .int .i64 0, .int .i64 0, .int .i64 0, .int .i64 0, .int .i64 0, .int .i64 0, .int .i64 0, .int .i64 0, .int .i64 0, .int .i64 0, .int .i64 0, .int .i64 0, .int .i64 0, .int .i64 0, .int .i64 0, .int .i64 0, .int .i64 0, .int .i64 0, .int .i64 0, .int .i64 0, .int .i64 0, .int .i64 0, .int .i64 0, .int .i64 0, .int .i64 0, .int .i64 0, .int .i64 0, .int .i64 0, .int .i64 0, .int .i64 0, .int .i64 0, .int .i64 0, .int .i64 0, .int .i64 0, .int .i64 0, .int .i64 0, .int .i64 0, .int .i64 0, .int .i64 0, .int .i64 0, .int .i64 0, .int .i64 0, .int .i64 0, .int .i64 0, .int .i64 0, .int .i64 0, .int .i64 0, .int .i64 0, .int .i64 0, .int .i64 0, .int .i64 0, .int .i64 0, .int .i64 0, .int .i64 0, .int .i64 0, .int .i64 0, .int .i64 0, .int .i64 0, .int .i64 0] 35) = W0 := ⟨_, rfl⟩
  have G0 : w.grownBy W0 none := by rw [← hW0]; exact grown_alloc (grown_alloc (World.grownBy_alloc _ _ _) _) _
  have b0 : W0.heap[w.heap.size]? = some (.cells (sq zs) 35 (0, 0)) := by rw [← hW0, Below.heap_alloc _ _ _ (by simp; omega), Below.heap_alloc _ _ _ (by simp)]; exact heap_alloc_new w _
  have b1 : W0.heap[w.heap.size + 1]? = some (.cells (sq zs64) 35 (0, 0)) := by
    rw [← hW0, Below.heap_alloc _ _ _ (by simp), sq_z64]
    have := heap_alloc_new (w.alloc (.cells (sq zs) 35)) (.cells #[.int .i64 0, .int .i64 0, .int .i64 0, .int .i64 0, .int .i64 0, .int .i64 0, .int .i64 0, .int .i64 0, .int .i64 0, .int .i64 0, .int .i64 0, .int .i64 0, .int .i64 0, .int .i64 0, .int .i64 0, .int .i64 0, .int .i64 0, .int .i64 0, .int .i64 0, .int .i64 0, .int .i64 0, .int .i64 0, .int .i64 0, .int .i64 0, .int .i64 0, .int .i64 0, .int .i64 0, .int .i64 0, .int .i64 0, .int .i64 0, .int .i64 0, .int .i64 0, .int .i64 0, .int .i64 0, .int .i64 0, .int .i64 0, .int .i64 0, .int .i64 0, .int .i64 0, .int .i64 0, .int .i64 0, .int .i64 0, .int .i64 0, .int .i64 0, .int .i64 0, .int .i64 0, .int .i64 0, .int .i64 0, .int .i64 0, .int .i64 0, .int .i64 0, .int .i64 0, .int .i64 0, .int .i64 0, .int .i64 0, .int .i64 0, .int .i64 0, .int .i64 0, .int .i64 0, .int .i64 0, .int .i64 0, .int .i64 0, .int .i64 0, .int .i64 0] 35)
    simpa using this
  have b2 : W0.heap[w.heap.size + 2]? = some (.cells #[.int .i64 0, .int .i64 0, .int .i64 0, .int .i64 0, .int .i64 0, .int .i64 0, .int .i64 0, .int .i64 0, .int .i64 0, .int .i64 0, .int .i64 0, .int .i64 0, .int .i64 0, .int .i64 0, .int .i64 0, .int .i64 0, .int .i64 0, .int .i64 0, .int .i64 0, .int .i64 0, .int .i64 0, .int .i64 0, .int .i64 0, .int .i64 0, .int .i64 0, .int .i64 0, .int .i64 0, .int .i64 0, .int .i64 0, .int .i64 0, .int .i64 0, .int .i64 0, .int .i64 0, .int .i64 0, .int .i64 0, .int .i64 0, .int .i64 0, .int .i64 0, .int .i64 0, .int .i64 0, .int .i64 0, .int .i64 0, .int .i64 0, .int .i64 0, .int .i64 0, .int .i64 0, .int .i64 0, .int .i64 0, .int .i64 0, .int .i64 0, .int .i64 0, .int .i64 0, .int .i64 0, .int .i64 0, .int .i64 0, .int .i64 0, .int .i64 0, .int .i64 0, .int .i64 0, .int .i64 0, .int .i64 0, .int .i64 0, .int .i64 0, .int .i64 0] 35 (0, 0)) := by
    rw [← hW0]
    have := heap_alloc_new ((w.alloc (.cells (sq zs) 35)).alloc (.cells #[.int .i64 0, .int .i64 0, .int .i64 0, .int .i64 0, .int .i64 0, .int .i64 0, .int .i64 0, .int .i64 0, .int .i64 0, .int .i64 0, .int .i64 0, .int .i64 0, .int .i64 0, .int .i64 0, .int .i64 0, .int .i64 0, .int .i64 0, .int .i64 0, .int .i64 0, .int .i64 0, .int .i64 0, .int .i64 0, .int .i64 0, .int .i64 0, .int .i64 0, .int .i64 0, .int .i64 0, .int .i64 0, .int .i64 0, .int .i64 0, .int .i64 0, .int .i64 0, .int .i64 0, .int .i64 0, .int .i64 0, .int .i64 0, .int .i64 0, .int .i64 0, .int .i64 0, .int .i64 0, .int .i64 0, .int .i64 0, .int .i64 0, .int .i64 0, .int .i64 0, .int .i64 0, .int .i64 0, .int .i64 0, .int .i64 0, .int .i64 0, .int .i64 0, .int .i64 0, .int .i64 0, .int .i64 0, .int .i64 0, .int .i64 0, .int .i64 0, .int .i64 0, .int .i64 0, .int .i64 0, .int .i64 0, .int .i64 0, .int .i64 0, .int .i64 0] 35)) (.cells #[.int .i64 0, .int .i64 0, .int .i64 0, .int .i64 0, .int .i64 0, .int .i64 0, .int .i64 0, .int .i64 0, .int .i64 0, .int .i64 0, .int .i64 0, .int .i64 0, .int .i64 0, .int .i64 0, .int .i64 0, .int .i64 0, .int .i64 0, .int .i64 0, .int .i64 0, .int .i64 0, .int .i64 0, .int .i64 0, .int .i64 0, .int .i64 0, .int .i64 0, .int .i64 0, .int .i64 0, .int .i64 0, .int .i64 0, .int .i64 0, .int .i64 0, .int .i64 0, .int .i64 0, .int .i64 0, .int .i64 0, .int .i64 0, .int .i64 0, .int .i64 0, .int .i64 0, .int .i64 0, .int .i64 0, .int .i64 0, .int .i64 0, .int .i64 0, .int .i64 0, .int .i64 0, .int .i64 0, .int .i64 0, .int .i64 0, .int .i64 0, .int .i64 0, .int .i64 0, .int .i64 0, .int .i64 0, .int .i64 0, .int .i64 0, .int .i64 0, .int .i64 0, .int .i64 0, .int .i64 0, .int .i64 0, .int .i64 0, .int .i64 0, .int .i64 0] 35)
    simpa using this
  have s0 : W0.heap.size = w.heap.size + 3 := by rw [← hW0]; simp
  have HW := hide hW0
  have B0 := hide b0
  have B1 := hide b1
  have B2 := hide b2
  have HG0 := hide G0
  have HZ := hide hz
  have HS : Hid ((sq zs).size = 64) := by unfold Hid; rw [sq_size, hz]
  clear hW0 b0 b1 b2 G0 hz
  go_enter Tryd.func36, Tryd.ntmps36
  go_wp2_with (first | (rw [unhide HW]; clear HW; refine store_row rfl 35 _ _ rfl (w.heap.size + 2) rfl #[.int .i64 0, .int .i64 0, .int .i64 0, .int .i64 0, .int .i64 0, .int .i64 0, .int .i64 0, .int .i64 0, .int .i64 0, .int .i64 0, .int .i64 0, .int .i64 0, .int .i64 0, .int .i64 0, .int .i64 0, .int .i64 0, .int .i64 0, .int .i64 0, .int .i64 0, .int .i64 0, .int .i64 0, .int .i64 0, .int .i64 0, .int .i64 0, .int .i64 0, .int .i64 0, .int .i64 0, .int .i64 0, .int .i64 0, .int .i64 0, .int .i64 0, .int .i64 0, .int .i64 0, .int .i64 0, .int .i64 0, .int .i64 0, .int .i64 0, .int .i64 0, .int .i64 0, .int .i64 0, .int .i64 0, .int .i64 0, .int .i64 0, .int .i64 0, .int .i64 0, .int .i64 0, .int .i64 0, .int .i64 0, .int .i64 0, .int .i64 0, .int .i64 0, .int .i64 0, .int .i64 0, .int .i64 0, .int .i64 0, .int .i64 0, .int .i64 0, .int .i64 0, .int .i64 0, .int .i64 0, .int .i64 0, .int .i64 0, .int .i64 0, .int .i64 0] rfl #[.int .i64 0, .int .i64 0, .int .i64 0, .int .i64 0, .int .i64 0, .int .i64 0, .int .i64 0, .int .i64 0, .int .i64 0, .int .i64 0, .int .i64 0, .int .i64 0, .int .i64 0, .int .i64 0, .int .i64 0, .int .i64 0, .int .i64 0, .int .i64 0, .int .i64 0, .int .i64 0, .int .i64 0, .int .i64 0, .int .i64 0, .int .i64 0, .int .i64 0, .int .i64 0, .int .i64 0, .int .i64 0, .int .i64 0, .int .i64 0, .int .i64 0, .int .i64 0, .int .i64 0, .int .i64 0, .int .i64 0, .int .i64 0, .int .i64 0, .int .i64 0, .int .i64 0, .int .i64 0, .int .i64 0, .int .i64 0, .int .i64 0, .int .i64 0, .int .i64 0, .int .i64 0, .int .i64 0, .int .i64 0, .int .i64 0, .int .i64 0, .int .i64 0, .int .i64 0, .int .i64 0, .int .i64 0, .int .i64 0, .int .i64 0, .int .i64 0, .int .i64 0, .int .i64 0, .int .i64 0, .int .i64 0, .int .i64 0, .int .i64 0, .int .i64 0] 35 (unhide B2) rfl (by kernel_rfl) (by rw [← sq_z64]; exact sq_one _) ?_; intro w3 hB3 g3; rw [← sq_z64] at hB3) | (refine load_row rfl 35 _ rfl w.heap.size rfl (sq zs) 35 ((g3.block w.heap.size (by omega) (by simp)).trans (unhide B0)) _ Tryd.underlying35 rfl (by rw [unhide HS]; kernel_rfl) ?_))
  have s3 := g3.size
  have hR3 := (g3.block (w.heap.size + 1) (by omega) (by simp)).trans (unhide B1)
  have HG3 : Hid (w.grownBy w3 none) := grown_new (unhide HG0) g3 (fun g e => by simp at e; omega)
  have HR3 := hide hR3
  have HB3 := hide hB3
  clear hR3 hB3 g3
  go_loopw [8] (fun i wr => ∃ k : Nat, k ≤ 64 ∧ i = .int .i64 k ∧ wr.heap[w.heap.size + 2]? = some (.cells (sq (turnTo zs k)) 35 (0, 0)) ∧ w3.grownBy wr (some (w.heap.size + 2))) (fun i _ => 64 - (intOf i).toNat)
  case atStart => exact ⟨0, Nat.zero_le _, rfl, by rw [turn_zero]; exact unhide HB3, World.grownBy.refl _ _⟩
  case round =>
    obtain ⟨k, hk, rfl, hM, hgk⟩ := hrel
    by_cases hlt : k < 64
    · obtain ⟨p, hp⟩ : ∃ p, tr k = p := ⟨_, rfl⟩
      have hp64 : p < 64 := by rw [← hp]; exact tr_lt k hlt
      have hpI : 8 * ((k : Int) % 8) + (k : Int) / 8 = (p : Int) := by rw [← hp]; unfold tr; omega
      have hat := fun w => idx (unhide HZ) (k : Int) (by omega) (by omega) w
      simp only [Int.toNat_natCast] at hat
      have hp64I : (p : Int) < 64 := by omega
      have cM := sq_cell hM p (by rw [turnTo, made_len]; omega)
      have fM := sq_frozen hM p
      have HSET : Hid ((wr.setCell ⟨w.heap.size + 2, p, none⟩ (.int .i64 (zs.getD k 0))).heap[w.heap.size + 2]? = some (.cells (sq (turnTo zs (k + 1))) 35 (0, 0)) ∧ w3.grownBy (wr.setCell ⟨w.heap.size + 2, p, none⟩ (.int .i64 (zs.getD k 0))) (some (w.heap.size + 2))) := by
        refine ⟨?_, grown_trans hgk (grown_set wr _ _ _)⟩
        rw [heap_setCell_same wr (w.heap.size + 2) _ _ _ _ hM]
        rw [← hp, turn_set zs k hlt]
      clear hM hgk hp
      generalize zs.getD k 0 = z at hat HSET
      go_wp2
      go_roundw
      case rel => exact ⟨k + 1, by omega, by go_num, (unhide HSET).1, (unhide HSET).2⟩
      case measure => simp [intOf]; omega
    · obtain rfl : k = 64 := by omega
      rw [turn_all] at hM
      have hbr := (hgk.block (w.heap.size + 1) (by omega) (by simp)).trans (unhide HR3)
      have HM := hide hM
      have HBR := hide hbr
      have HMS : Hid ((sq (turnedL zs)).size = 64) := by unfold Hid; rw [sq_size, turnedL, made_len]
      have HGF : Hid (w.grownBy wr none) := grown_new (unhide HG3) hgk (fun g e => by simp at e; omega)
      clear hM hbr hgk
      go_wp2_with (first | (refine load_row rfl 35 _ rfl (w.heap.size + 2) rfl (sq (turnedL zs)) 35 (unhide HM) _ Tryd.underlying35 rfl (by rw [unhide HMS]; kernel_rfl) ?_) | (refine store_row rfl 35 _ _ rfl (w.heap.size + 1) rfl (sq (turnedL zs)) rfl (sq zs64) 35 (unhide HBR) (by rw [unhide HMS, sq_size, zs64_len]) (by rw [unhide HMS]; kernel_rfl) (sq_one _) ?_; intro w6 hB6 g6))
      refine bodyPost_ret (v := .agg (sq (turnedL zs))) ?_ rfl ⟨rfl, ?_⟩
      · rw [results_c1 rfl]
        exact run_loadVar_row w6 _ 35 35 _ (0, 0) _ hB6 Tryd.underlying35 rfl (by rw [unhide HMS]; kernel_rfl)
      · exact grown_new (unhide HGF) g6 (fun g e => by simp at e; omega)

end Go.Proofs.YtoeehfjbnbbijabDoor
