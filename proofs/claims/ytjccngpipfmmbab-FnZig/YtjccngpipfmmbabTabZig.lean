/-
  The order of waves.
-/
import Derived.Test.YtjccngpipfmmbabTabImpl
namespace Go.Proofs.Ytjccngpipfmmbab
open Go.RowKit

/-- The order of waves. -/
def zzN : List Nat := [0, 1, 8, 16, 9, 2, 3, 10, 17, 24, 32, 25, 18, 11, 4, 5, 12, 19, 26, 33, 40, 48, 41, 34, 27, 20, 13, 6, 7, 14, 21, 28, 35, 42, 49, 56, 57, 50, 43, 36, 29, 22, 15, 23, 30, 37, 44, 51, 58, 59, 52, 45, 38, 31, 39, 46, 53, 60, 61, 54, 47, 55, 62, 63]
def zzL : List Int := zzN.map Int.ofNat
def zzF (k : Nat) : Int := zzL.getD k 0
/-- How many come ahead of a slanting line. -/
def lineAt : Nat → Nat
  | 0 => 0
  | s + 1 => lineAt s + (min s 7 + 1 - (s - 7))
theorem zz_len : zzL.length = 64 := by rfl
theorem line_end : lineAt 15 = 64 := by rfl
theorem line_le : ∀ s, s < 15 → lineAt s + (min s 7 + 1 - (s - 7)) ≤ 64 := by decide
theorem zz_made : made zzF = zzL := by rfl
theorem zz_up : ∀ s, s < 15 → ∀ i, i < min s 7 + 1 - (s - 7) → s % 2 = 0 → zzN.getD (lineAt s + i) 0 = 8 * (min s 7 - i) + s - (min s 7 - i) := by decide
theorem zz_down : ∀ s, s < 15 → ∀ i, i < min s 7 + 1 - (s - 7) → ¬ s % 2 = 0 → zzN.getD (lineAt s + i) 0 = 8 * ((s - 7) + i) + s - ((s - 7) + i) := by decide
theorem zzF_eq (k : Nat) : zzF k = (zzN.getD k 0 : Nat) := by
  simp only [zzF, zzL, List.getD_eq_getElem?_getD, List.getElem?_map]
  cases zzN[k]? <;> rfl

set_option maxRecDepth 20000 in
set_option maxHeartbeats 1600000 in
theorem zigZag (w : World) :
    Calls Try.prog 23 #[] w fun e w' => e = .returned (.agg (sq zzL)) ∧ w.grownBy w' none := by
  obtain ⟨W0, hW0⟩ : ∃ W0, (w.alloc (.cells #[.int .i64 0, .int .i64 0, .int .i64 0, .int .i64 0, .int .i64 0, .int .i64 0, .int .i64 0, .int .i64 0, .int .i64 0, .int .i64 0, .int .i64 0, .int .i64 0, .int .i64 0, .int .i64 0, .int .i64 0, .int .i64 0, .int .i64 0, .int .i64 0, .int .i64 0, .int .i64 0, .int .i64 0, .int .i64 0, .int .i64 0, .int .i64 0, .int .i64 0, .int .i64 0, .int .i64 0, .int .i64 0, .int .i64 0, .int .i64 0, .int .i64 0, .int .i64 0, .int .i64 0, .int .i64 0, .int .i64 0, .int .i64 0, .int .i64 0, .int .i64 0, .int .i64 0, .int .i64 0, .int .i64 0, .int .i64 0, .int .i64 0, .int .i64 0, .int .i64 0, .int .i64 0, .int .i64 0, .int .i64 0, .int .i64 0, .int .i64 0, .int .i64 0, .int .i64 0, .int .i64 0, .int .i64 0, .int .i64 0, .int .i64 0, .int .i64 0, .int .i64 0, .int .i64 0, .int .i64 0, .int .i64 0, .int .i64 0, .int .i64 0, .int .i64 0] 39)).alloc (.cells #[.int .i64 0, .int .i64 0, .int .i64 0, .int .i64 0, .int .i64 0, .int .i64 0, .int .i64 0, .int .i64 0, .int .i64 0, .int .i64 0, .int .i64 0, .int .i64 0, .int .i64 0, .int .i64 0, .int .i64 0, .int .i64 0, .int .i64 0, .int .i64 0, .int .i64 0, .int .i64 0, .int .i64 0, .int .i64 0, .int .i64 0, .int .i64 0, .int .i64 0, .int .i64 0, .int .i64 0, .int .i64 0, .int .i64 0, .int .i64 0, .int .i64 0, .int .i64 0, .int .i64 0, .int .i64 0, .int .i64 0, .int .i64 0, .int .i64 0, .int .i64 0, .int .i64 0, .int .i64 0, .int .i64 0, .int .i64 0, .int .i64 0, .int .i64 0, .int .i64 0, .int .i64 0, .int .i64 0, .int .i64 0, .int .i64 0, .int .i64 0, .int .i64 0, .int .i64 0, .int .i64 0, .int .i64 0, .int .i64 0, .int .i64 0, .int .i64 0, .int .i64 0, .int .i64 0, .int .i64 0, .int .i64 0, .int .i64 0, .int .i64 0, .int .i64 0] 39) = W0 := ⟨_, rfl⟩
  have G0 : w.grownBy W0 none := by rw [← hW0]; exact grown_alloc (World.grownBy_alloc _ _ _) _
  have b0 : W0.heap[w.heap.size]? = some (.cells (sq zs64) 39 (0, 0)) := by rw [← hW0, sq_z64, Below.heap_alloc _ _ _ (by simp)]; exact heap_alloc_new w _
  have b1 : W0.heap[w.heap.size + 1]? = some (.cells #[.int .i64 0, .int .i64 0, .int .i64 0, .int .i64 0, .int .i64 0, .int .i64 0, .int .i64 0, .int .i64 0, .int .i64 0, .int .i64 0, .int .i64 0, .int .i64 0, .int .i64 0, .int .i64 0, .int .i64 0, .int .i64 0, .int .i64 0, .int .i64 0, .int .i64 0, .int .i64 0, .int .i64 0, .int .i64 0, .int .i64 0, .int .i64 0, .int .i64 0, .int .i64 0, .int .i64 0, .int .i64 0, .int .i64 0, .int .i64 0, .int .i64 0, .int .i64 0, .int .i64 0, .int .i64 0, .int .i64 0, .int .i64 0, .int .i64 0, .int .i64 0, .int .i64 0, .int .i64 0, .int .i64 0, .int .i64 0, .int .i64 0, .int .i64 0, .int .i64 0, .int .i64 0, .int .i64 0, .int .i64 0, .int .i64 0, .int .i64 0, .int .i64 0, .int .i64 0, .int .i64 0, .int .i64 0, .int .i64 0, .int .i64 0, .int .i64 0, .int .i64 0, .int .i64 0, .int .i64 0, .int .i64 0, .int .i64 0, .int .i64 0, .int .i64 0] 39 (0, 0)) := by
    rw [← hW0]
    have := heap_alloc_new (w.alloc (.cells #[.int .i64 0, .int .i64 0, .int .i64 0, .int .i64 0, .int .i64 0, .int .i64 0, .int .i64 0, .int .i64 0, .int .i64 0, .int .i64 0, .int .i64 0, .int .i64 0, .int .i64 0, .int .i64 0, .int .i64 0, .int .i64 0, .int .i64 0, .int .i64 0, .int .i64 0, .int .i64 0, .int .i64 0, .int .i64 0, .int .i64 0, .int .i64 0, .int .i64 0, .int .i64 0, .int .i64 0, .int .i64 0, .int .i64 0, .int .i64 0, .int .i64 0, .int .i64 0, .int .i64 0, .int .i64 0, .int .i64 0, .int .i64 0, .int .i64 0, .int .i64 0, .int .i64 0, .int .i64 0, .int .i64 0, .int .i64 0, .int .i64 0, .int .i64 0, .int .i64 0, .int .i64 0, .int .i64 0, .int .i64 0, .int .i64 0, .int .i64 0, .int .i64 0, .int .i64 0, .int .i64 0, .int .i64 0, .int .i64 0, .int .i64 0, .int .i64 0, .int .i64 0, .int .i64 0, .int .i64 0, .int .i64 0, .int .i64 0, .int .i64 0, .int .i64 0] 39)) (.cells #[.int .i64 0, .int .i64 0, .int .i64 0, .int .i64 0, .int .i64 0, .int .i64 0, .int .i64 0, .int .i64 0, .int .i64 0, .int .i64 0, .int .i64 0, .int .i64 0, .int .i64 0, .int .i64 0, .int .i64 0, .int .i64 0, .int .i64 0, .int .i64 0, .int .i64 0, .int .i64 0, .int .i64 0, .int .i64 0, .int .i64 0, .int .i64 0, .int .i64 0, .int .i64 0, .int .i64 0, .int .i64 0, .int .i64 0, .int .i64 0, .int .i64 0, .int .i64 0, .int .i64 0, .int .i64 0, .int .i64 0, .int .i64 0, .int .i64 0, .int .i64 0, .int .i64 0, .int .i64 0, .int .i64 0, .int .i64 0, .int .i64 0, .int .i64 0, .int .i64 0, .int .i64 0, .int .i64 0, .int .i64 0, .int .i64 0, .int .i64 0, .int .i64 0, .int .i64 0, .int .i64 0, .int .i64 0, .int .i64 0, .int .i64 0, .int .i64 0, .int .i64 0, .int .i64 0, .int .i64 0, .int .i64 0, .int .i64 0, .int .i64 0, .int .i64 0] 39)
    simpa using this
  have s0 : W0.heap.size = w.heap.size + 2 := by rw [← hW0]; simp
  have HW := hide hW0
  have B0 := hide b0
  have B1 := hide b1
  have HG0 := hide G0
  clear hW0 b0 b1 G0
  go_enter Try.func23, Try.ntmps23
  go_wp2_with (rw [unhide HW]; clear HW; refine store_row rfl 39 _ _ rfl (w.heap.size + 1) rfl #[.int .i64 0, .int .i64 0, .int .i64 0, .int .i64 0, .int .i64 0, .int .i64 0, .int .i64 0, .int .i64 0, .int .i64 0, .int .i64 0, .int .i64 0, .int .i64 0, .int .i64 0, .int .i64 0, .int .i64 0, .int .i64 0, .int .i64 0, .int .i64 0, .int .i64 0, .int .i64 0, .int .i64 0, .int .i64 0, .int .i64 0, .int .i64 0, .int .i64 0, .int .i64 0, .int .i64 0, .int .i64 0, .int .i64 0, .int .i64 0, .int .i64 0, .int .i64 0, .int .i64 0, .int .i64 0, .int .i64 0, .int .i64 0, .int .i64 0, .int .i64 0, .int .i64 0, .int .i64 0, .int .i64 0, .int .i64 0, .int .i64 0, .int .i64 0, .int .i64 0, .int .i64 0, .int .i64 0, .int .i64 0, .int .i64 0, .int .i64 0, .int .i64 0, .int .i64 0, .int .i64 0, .int .i64 0, .int .i64 0, .int .i64 0, .int .i64 0, .int .i64 0, .int .i64 0, .int .i64 0, .int .i64 0, .int .i64 0, .int .i64 0, .int .i64 0] rfl #[.int .i64 0, .int .i64 0, .int .i64 0, .int .i64 0, .int .i64 0, .int .i64 0, .int .i64 0, .int .i64 0, .int .i64 0, .int .i64 0, .int .i64 0, .int .i64 0, .int .i64 0, .int .i64 0, .int .i64 0, .int .i64 0, .int .i64 0, .int .i64 0, .int .i64 0, .int .i64 0, .int .i64 0, .int .i64 0, .int .i64 0, .int .i64 0, .int .i64 0, .int .i64 0, .int .i64 0, .int .i64 0, .int .i64 0, .int .i64 0, .int .i64 0, .int .i64 0, .int .i64 0, .int .i64 0, .int .i64 0, .int .i64 0, .int .i64 0, .int .i64 0, .int .i64 0, .int .i64 0, .int .i64 0, .int .i64 0, .int .i64 0, .int .i64 0, .int .i64 0, .int .i64 0, .int .i64 0, .int .i64 0, .int .i64 0, .int .i64 0, .int .i64 0, .int .i64 0, .int .i64 0, .int .i64 0, .int .i64 0, .int .i64 0, .int .i64 0, .int .i64 0, .int .i64 0, .int .i64 0, .int .i64 0, .int .i64 0, .int .i64 0, .int .i64 0] 39 (unhide B1) rfl (by kernel_rfl) (by rw [← sq_z64]; exact sq_one _) ?_; intro w3 hB3 g3; rw [← sq_z64] at hB3)
  go_loopw [9, 2] (fun i a wr => ∃ s : Nat, s ≤ 15 ∧ i = .int .i64 s ∧ a = .int .i64 (lineAt s : Nat) ∧ wr.heap[w.heap.size + 1]? = some (.cells (sq (mix zzF zs64 (lineAt s))) 39 (0, 0)) ∧ w3.grownBy wr (some (w.heap.size + 1))) (fun i _ _ => 15 - (intOf i).toNat)
  case atStart => exact ⟨0, Nat.zero_le _, rfl, rfl, by rw [show lineAt 0 = 0 from rfl, mix_zero]; exact hB3, World.grownBy.refl _ _⟩
  case round =>
    obtain ⟨s, hs, rfl, rfl, hM, hgk⟩ := hrel
    by_cases hlt : s < 15
    · have e1 := i64_in ((s : Int) - 8) (by omega)
      have e2 := i64_in ((s : Int) - 8 + 1) (by omega)
      by_cases h8 : s < 8
      · go_wp2
        go_loopw [22, 2] (fun i a wr => ∃ j : Nat, j ≤ min s 7 + 1 - (s - 7) ∧ i = .int .i64 j ∧ a = .int .i64 ((lineAt s + j : Nat) : Int) ∧ wr.heap[w.heap.size + 1]? = some (.cells (sq (mix zzF zs64 (lineAt s + j))) 39 (0, 0)) ∧ w3.grownBy wr (some (w.heap.size + 1))) (fun i _ _ => 64 - (intOf i).toNat)
        case atStart => exact ⟨0, Nat.zero_le _, rfl, rfl, hM, hgk⟩
        case round =>
          obtain ⟨j, hj, rfl, rfl, hMj, hgj⟩ := hrel
          by_cases hltj : j < min s 7 + 1 - (s - 7)
          · have hpos : lineAt s + j < 64 := by have := line_le s hlt; omega
            have hlen : (mix zzF zs64 (lineAt s + j)).length = 64 := (mix_len zzF zs64 _ (by rw [zs64_len]; omega)).trans zs64_len
            have c2 := sq_cell hMj (lineAt s + j) (by omega)
            have f2 := sq_frozen hMj (lineAt s + j)
            have HS : Hid (∀ v, v = zzF (lineAt s + j) → (wr.setCell ⟨w.heap.size + 1, lineAt s + j, none⟩ (.int .i64 v)).heap[w.heap.size + 1]? = some (.cells (sq (mix zzF zs64 (lineAt s + (j + 1)))) 39 (0, 0)) ∧ w3.grownBy (wr.setCell ⟨w.heap.size + 1, lineAt s + j, none⟩ (.int .i64 v)) (some (w.heap.size + 1))) := by
              rintro v rfl
              have hM3 := heap_setCell_same wr (w.heap.size + 1) (lineAt s + j) _ _ (.int .i64 (zzF (lineAt s + j))) hMj
              rw [mix_set zzF zs64 (lineAt s + j) (by rw [zs64_len]; omega)] at hM3
              exact ⟨hM3, grown_trans hgj (grown_set wr (w.heap.size + 1) (lineAt s + j) (.int .i64 (zzF (lineAt s + j))))⟩
            clear hMj hgj hlen
            by_cases hev : s % 2 = 0
            · -- even
              go_wp2
              go_roundw
              case rel => 
                refine ⟨j + 1, by omega, by go_num, congrArg (Value.int .i64) (by omega), (unhide HS _ ?_).1, (unhide HS _ ?_).2⟩
                all_goals
                  rw [zzF_eq, zz_up s hlt j hltj hev]
                  omega
              case measure => simp [intOf]; omega
            · -- odd
              go_wp2
              go_roundw
              case rel => 
                refine ⟨j + 1, by omega, by go_num, congrArg (Value.int .i64) (by omega), (unhide HS _ ?_).1, (unhide HS _ ?_).2⟩
                all_goals
                  rw [zzF_eq, zz_down s hlt j hltj hev]
                  omega
              case measure => simp [intOf]; omega
          · obtain rfl : j = min s 7 + 1 - (s - 7) := by omega
            have hml : lineAt (s + 1) = lineAt s + (min s 7 + 1 - (s - 7)) := rfl
            go_wp2
            go_roundw
            case rel => exact ⟨s + 1, by omega, by go_num, by rw [hml], by rw [hml]; exact hMj, hgj⟩
            case measure => simp [intOf]; omega
      · have e3 := i64_in (7 - ((s : Int) - 8 + 1)) (by omega)
        have e4 := i64_in (7 - ((s : Int) - 8 + 1) + 1) (by omega)
        go_wp2
        go_loopw [22, 2] (fun i a wr => ∃ j : Nat, j ≤ min s 7 + 1 - (s - 7) ∧ i = .int .i64 j ∧ a = .int .i64 ((lineAt s + j : Nat) : Int) ∧ wr.heap[w.heap.size + 1]? = some (.cells (sq (mix zzF zs64 (lineAt s + j))) 39 (0, 0)) ∧ w3.grownBy wr (some (w.heap.size + 1))) (fun i _ _ => 64 - (intOf i).toNat)
        case atStart => exact ⟨0, Nat.zero_le _, rfl, rfl, hM, hgk⟩
        case round =>
          obtain ⟨j, hj, rfl, rfl, hMj, hgj⟩ := hrel
          by_cases hltj : j < min s 7 + 1 - (s - 7)
          · have hpos : lineAt s + j < 64 := by have := line_le s hlt; omega
            have hlen : (mix zzF zs64 (lineAt s + j)).length = 64 := (mix_len zzF zs64 _ (by rw [zs64_len]; omega)).trans zs64_len
            have c2 := sq_cell hMj (lineAt s + j) (by omega)
            have f2 := sq_frozen hMj (lineAt s + j)
            have HS : Hid (∀ v, v = zzF (lineAt s + j) → (wr.setCell ⟨w.heap.size + 1, lineAt s + j, none⟩ (.int .i64 v)).heap[w.heap.size + 1]? = some (.cells (sq (mix zzF zs64 (lineAt s + (j + 1)))) 39 (0, 0)) ∧ w3.grownBy (wr.setCell ⟨w.heap.size + 1, lineAt s + j, none⟩ (.int .i64 v)) (some (w.heap.size + 1))) := by
              rintro v rfl
              have hM3 := heap_setCell_same wr (w.heap.size + 1) (lineAt s + j) _ _ (.int .i64 (zzF (lineAt s + j))) hMj
              rw [mix_set zzF zs64 (lineAt s + j) (by rw [zs64_len]; omega)] at hM3
              exact ⟨hM3, grown_trans hgj (grown_set wr (w.heap.size + 1) (lineAt s + j) (.int .i64 (zzF (lineAt s + j))))⟩
            clear hMj hgj hlen
            by_cases hev : s % 2 = 0
            · -- even
              go_wp2
              go_roundw
              case rel => 
                refine ⟨j + 1, by omega, by go_num, congrArg (Value.int .i64) (by omega), (unhide HS _ ?_).1, (unhide HS _ ?_).2⟩
                all_goals
                  rw [zzF_eq, zz_up s hlt j hltj hev]
                  omega
              case measure => simp [intOf]; omega
            · -- odd
              go_wp2
              go_roundw
              case rel => 
                refine ⟨j + 1, by omega, by go_num, congrArg (Value.int .i64) (by omega), (unhide HS _ ?_).1, (unhide HS _ ?_).2⟩
                all_goals
                  rw [zzF_eq, zz_down s hlt j hltj hev]
                  omega
              case measure => simp [intOf]; omega
          · obtain rfl : j = min s 7 + 1 - (s - 7) := by omega
            have hml : lineAt (s + 1) = lineAt s + (min s 7 + 1 - (s - 7)) := rfl
            go_wp2
            go_roundw
            case rel => exact ⟨s + 1, by omega, by go_num, by rw [hml], by rw [hml]; exact hMj, hgj⟩
            case measure => simp [intOf]; omega
    · obtain rfl : s = 15 := by omega
      rw [line_end, mix_all zzF zs64 zs64_len, zz_made] at hM
      have hbr := (hgk.block w.heap.size (by have := g3.size; omega) (by simp)).trans ((g3.block w.heap.size (by omega) (by simp)).trans (unhide B0))
      have HM := hide hM
      have HBR := hide hbr
      have HMS : Hid ((sq zzL).size = 64) := by unfold Hid; rw [sq_size, zz_len]
      have HGF : Hid (w.grownBy wr none) := grown_new (unhide HG0) (grown_trans g3 hgk) (fun g e => by simp at e; omega)
      clear hM hbr hgk g3
      go_wp2_with (first | (refine load_row rfl 39 _ rfl (w.heap.size + 1) rfl (sq zzL) 39 (unhide HM) _ Try.underlying39 rfl (by rw [unhide HMS]; kernel_rfl) ?_) | (refine store_row rfl 39 _ _ rfl w.heap.size rfl (sq zzL) rfl (sq zs64) 39 (unhide HBR) (by rw [unhide HMS, sq_size, zs64_len]) (by rw [unhide HMS]; kernel_rfl) (sq_one _) ?_; intro w4 hB4 g4))
      refine bodyPost_ret (v := .agg (sq zzL)) ?_ rfl ⟨rfl, ?_⟩
      · rw [results_c1 rfl]
        exact run_loadVar_row w4 _ 39 39 _ (0, 0) _ hB4 Try.underlying39 rfl (by rw [unhide HMS]; kernel_rfl)
      · exact grown_new (unhide HGF) g4 (fun g e => by simp at e; omega)

end Go.Proofs.Ytjccngpipfmmbab
