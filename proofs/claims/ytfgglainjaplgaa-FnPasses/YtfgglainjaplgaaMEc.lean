/-
  TabZig, TabImpl2, TabZig2, CutPure, ScriptPure, PassMath, ScriptMath, ScriptPass, PassEnd, PassGive.
-/
import Derived.Deep.RegionHeld3
import Derived.Shelf.Abstract
import Derived.Test.YtfgglainjaplgaaMEb

namespace Go.Proofs.Ytfgglainjaplgaa
open Go.RowKit

/-- The order of waves. -/
def zzN : List Nat := [0, 1, 8, 16, 9, 2, 3, 10, 17, 24, 32, 25, 18, 11, 4, 5, 12, 19, 26, 33, 40, 48, 41, 34, 27, 20, 13, 6, 7, 14, 21, 28, 35, 42, 49, 56, 57, 50, 43, 36, 29, 22, 15, 23, 30, 37, 44, 51, 58, 59, 52, 45, 38, 31, 39, 46, 53, 60, 61, 54, 47, 55, 62, 63]
def zzL : List Int := zzN.map Int.ofNat
def zzF (k : Nat) : Int := zzL.getD k 0
/-- How many come ahead of a slanting line. -/
def lineAt : Nat → Nat
  | 0 => 0
  | s + 1 => lineAt s + (min s 7 + 1 - (s - 7))
theorem zz_len : zzL.length = 64 := by rfl
theorem line_end : lineAt 15 = 64 := by rfl
theorem line_le : ∀ s, s < 15 → lineAt s + (min s 7 + 1 - (s - 7)) ≤ 64 := by decide
theorem zz_made : made zzF = zzL := by rfl
theorem zz_up : ∀ s, s < 15 → ∀ i, i < min s 7 + 1 - (s - 7) → s % 2 = 0 → zzN.getD (lineAt s + i) 0 = 8 * (min s 7 - i) + s - (min s 7 - i) := by decide
theorem zz_down : ∀ s, s < 15 → ∀ i, i < min s 7 + 1 - (s - 7) → ¬ s % 2 = 0 → zzN.getD (lineAt s + i) 0 = 8 * ((s - 7) + i) + s - ((s - 7) + i) := by decide
theorem zzF_eq (k : Nat) : zzF k = (zzN.getD k 0 : Nat) := by
  simp only [zzF, zzL, List.getD_eq_getElem?_getD, List.getElem?_map]
  cases zzN[k]? <;> rfl

set_option maxRecDepth 20000 in
set_option maxHeartbeats 1600000 in
theorem zigZag (w : World) :
    Calls Try.prog 74 #[] w fun e w' => e = .returned (.agg (sq zzL)) ∧ w.grownBy w' none := by
  obtain ⟨W0, hW0⟩ : ∃ W0, (w.alloc (.cells #[.int .i64 0, .int .i64 0, .int .i64 0, .int .i64 0, .int .i64 0, .int .i64 0, .int .i64 0, .int .i64 0, .int .i64 0, .int .i64 0, .int .i64 0, .int .i64 0, .int .i64 0, .int .i64 0, .int .i64 0, .int .i64 0, .int .i64 0, .int .i64 0, .int .i64 0, .int .i64 0, .int .i64 0, .int .i64 0, .int .i64 0, .int .i64 0, .int .i64 0, .int .i64 0, .int .i64 0, .int .i64 0, .int .i64 0, .int .i64 0, .int .i64 0, .int .i64 0, .int .i64 0, .int .i64 0, .int .i64 0, .int .i64 0, .int .i64 0, .int .i64 0, .int .i64 0, .int .i64 0, .int .i64 0, .int .i64 0, .int .i64 0, .int .i64 0, .int .i64 0, .int .i64 0, .int .i64 0, .int .i64 0, .int .i64 0, .int .i64 0, .int .i64 0, .int .i64 0, .int .i64 0, .int .i64 0, .int .i64 0, .int .i64 0, .int .i64 0, .int .i64 0, .int .i64 0, .int .i64 0, .int .i64 0, .int .i64 0, .int .i64 0, .int .i64 0] 73)).alloc (.cells #[.int .i64 0, .int .i64 0, .int .i64 0, .int .i64 0, .int .i64 0, .int .i64 0, .int .i64 0, .int .i64 0, .int .i64 0, .int .i64 0, .int .i64 0, .int .i64 0, .int .i64 0, .int .i64 0, .int .i64 0, .int .i64 0, .int .i64 0, .int .i64 0, .int .i64 0, .int .i64 0, .int .i64 0, .int .i64 0, .int .i64 0, .int .i64 0, .int .i64 0, .int .i64 0, .int .i64 0, .int .i64 0, .int .i64 0, .int .i64 0, .int .i64 0, .int .i64 0, .int .i64 0, .int .i64 0, .int .i64 0, .int .i64 0, .int .i64 0, .int .i64 0, .int .i64 0, .int .i64 0, .int .i64 0, .int .i64 0, .int .i64 0, .int .i64 0, .int .i64 0, .int .i64 0, .int .i64 0, .int .i64 0, .int .i64 0, .int .i64 0, .int .i64 0, .int .i64 0, .int .i64 0, .int .i64 0, .int .i64 0, .int .i64 0, .int .i64 0, .int .i64 0, .int .i64 0, .int .i64 0, .int .i64 0, .int .i64 0, .int .i64 0, .int .i64 0] 73) = W0 := ⟨_, rfl⟩
  have G0 : w.grownBy W0 none := by rw [← hW0]; exact grown_alloc (World.grownBy_alloc _ _ _) _
  have b0 : W0.heap[w.heap.size]? = some (.cells (sq zs64) 73 (0, 0)) := by rw [← hW0, sq_z64, Below.heap_alloc _ _ _ (by simp)]; exact heap_alloc_new w _
  have b1 : W0.heap[w.heap.size + 1]? = some (.cells #[.int .i64 0, .int .i64 0, .int .i64 0, .int .i64 0, .int .i64 0, .int .i64 0, .int .i64 0, .int .i64 0, .int .i64 0, .int .i64 0, .int .i64 0, .int .i64 0, .int .i64 0, .int .i64 0, .int .i64 0, .int .i64 0, .int .i64 0, .int .i64 0, .int .i64 0, .int .i64 0, .int .i64 0, .int .i64 0, .int .i64 0, .int .i64 0, .int .i64 0, .int .i64 0, .int .i64 0, .int .i64 0, .int .i64 0, .int .i64 0, .int .i64 0, .int .i64 0, .int .i64 0, .int .i64 0, .int .i64 0, .int .i64 0, .int .i64 0, .int .i64 0, .int .i64 0, .int .i64 0, .int .i64 0, .int .i64 0, .int .i64 0, .int .i64 0, .int .i64 0, .int .i64 0, .int .i64 0, .int .i64 0, .int .i64 0, .int .i64 0, .int .i64 0, .int .i64 0, .int .i64 0, .int .i64 0, .int .i64 0, .int .i64 0, .int .i64 0, .int .i64 0, .int .i64 0, .int .i64 0, .int .i64 0, .int .i64 0, .int .i64 0, .int .i64 0] 73 (0, 0)) := by
    rw [← hW0]
    have := heap_alloc_new (w.alloc (.cells #[.int .i64 0, .int .i64 0, .int .i64 0, .int .i64 0, .int .i64 0, .int .i64 0, .int .i64 0, .int .i64 0, .int .i64 0, .int .i64 0, .int .i64 0, .int .i64 0, .int .i64 0, .int .i64 0, .int .i64 0, .int .i64 0, .int .i64 0, .int .i64 0, .int .i64 0, .int .i64 0, .int .i64 0, .int .i64 0, .int .i64 0, .int .i64 0, .int .i64 0, .int .i64 0, .int .i64 0, .int .i64 0, .int .i64 0, .int .i64 0, .int .i64 0, .int .i64 0, .int .i64 0, .int .i64 0, .int .i64 0, .int .i64 0, .int .i64 0, .int .i64 0, .int .i64 0, .int .i64 0, .int .i64 0, .int .i64 0, .int .i64 0, .int .i64 0, .int .i64 0, .int .i64 0, .int .i64 0, .int .i64 0, .int .i64 0, .int .i64 0, .int .i64 0, .int .i64 0, .int .i64 0, .int .i64 0, .int .i64 0, .int .i64 0, .int .i64 0, .int .i64 0, .int .i64 0, .int .i64 0, .int .i64 0, .int .i64 0, .int .i64 0, .int .i64 0] 73)) (.cells #[.int .i64 0, .int .i64 0, .int .i64 0, .int .i64 0, .int .i64 0, .int .i64 0, .int .i64 0, .int .i64 0, .int .i64 0, .int .i64 0, .int .i64 0, .int .i64 0, .int .i64 0, .int .i64 0, .int .i64 0, .int .i64 0, .int .i64 0, .int .i64 0, .int .i64 0, .int .i64 0, .int .i64 0, .int .i64 0, .int .i64 0, .int .i64 0, .int .i64 0, .int .i64 0, .int .i64 0, .int .i64 0, .int .i64 0, .int .i64 0, .int .i64 0, .int .i64 0, .int .i64 0, .int .i64 0, .int .i64 0, .int .i64 0, .int .i64 0, .int .i64 0, .int .i64 0, .int .i64 0, .int .i64 0, .int .i64 0, .int .i64 0, .int .i64 0, .int .i64 0, .int .i64 0, .int .i64 0, .int .i64 0, .int .i64 0, .int .i64 0, .int .i64 0, .int .i64 0, .int .i64 0, .int .i64 0, .int .i64 0, .int .i64 0, .int .i64 0, .int .i64 0, .int .i64 0, .int .i64 0, .int .i64 0, .int .i64 0, .int .i64 0, .int .i64 0] 73)
    simpa using this
  have s0 : W0.heap.size = w.heap.size + 2 := by rw [← hW0]; simp
  have HW := hide hW0
  have B0 := hide b0
  have B1 := hide b1
  have HG0 := hide G0
  clear hW0 b0 b1 G0
  go_enter Try.func74, Try.ntmps74
  go_wp2_with (rw [unhide HW]; clear HW; refine store_row rfl 73 _ _ rfl (w.heap.size + 1) rfl #[.int .i64 0, .int .i64 0, .int .i64 0, .int .i64 0, .int .i64 0, .int .i64 0, .int .i64 0, .int .i64 0, .int .i64 0, .int .i64 0, .int .i64 0, .int .i64 0, .int .i64 0, .int .i64 0, .int .i64 0, .int .i64 0, .int .i64 0, .int .i64 0, .int .i64 0, .int .i64 0, .int .i64 0, .int .i64 0, .int .i64 0, .int .i64 0, .int .i64 0, .int .i64 0, .int .i64 0, .int .i64 0, .int .i64 0, .int .i64 0, .int .i64 0, .int .i64 0, .int .i64 0, .int .i64 0, .int .i64 0, .int .i64 0, .int .i64 0, .int .i64 0, .int .i64 0, .int .i64 0, .int .i64 0, .int .i64 0, .int .i64 0, .int .i64 0, .int .i64 0, .int .i64 0, .int .i64 0, .int .i64 0, .int .i64 0, .int .i64 0, .int .i64 0, .int .i64 0, .int .i64 0, .int .i64 0, .int .i64 0, .int .i64 0, .int .i64 0, .int .i64 0, .int .i64 0, .int .i64 0, .int .i64 0, .int .i64 0, .int .i64 0, .int .i64 0] rfl #[.int .i64 0, .int .i64 0, .int .i64 0, .int .i64 0, .int .i64 0, .int .i64 0, .int .i64 0, .int .i64 0, .int .i64 0, .int .i64 0, .int .i64 0, .int .i64 0, .int .i64 0, .int .i64 0, .int .i64 0, .int .i64 0, .int .i64 0, .int .i64 0, .int .i64 0, .int .i64 0, .int .i64 0, .int .i64 0, .int .i64 0, .int .i64 0, .int .i64 0, .int .i64 0, .int .i64 0, .int .i64 0, .int .i64 0, .int .i64 0, .int .i64 0, .int .i64 0, .int .i64 0, .int .i64 0, .int .i64 0, .int .i64 0, .int .i64 0, .int .i64 0, .int .i64 0, .int .i64 0, .int .i64 0, .int .i64 0, .int .i64 0, .int .i64 0, .int .i64 0, .int .i64 0, .int .i64 0, .int .i64 0, .int .i64 0, .int .i64 0, .int .i64 0, .int .i64 0, .int .i64 0, .int .i64 0, .int .i64 0, .int .i64 0, .int .i64 0, .int .i64 0, .int .i64 0, .int .i64 0, .int .i64 0, .int .i64 0, .int .i64 0, .int .i64 0] 73 (unhide B1) rfl (by kernel_rfl) (by rw [← sq_z64]; exact sq_one _) ?_; intro w3 hB3 g3; rw [← sq_z64] at hB3)
  go_loopw [9, 2] (fun i a wr => ∃ s : Nat, s ≤ 15 ∧ i = .int .i64 s ∧ a = .int .i64 (lineAt s : Nat) ∧ wr.heap[w.heap.size + 1]? = some (.cells (sq (mix zzF zs64 (lineAt s))) 73 (0, 0)) ∧ w3.grownBy wr (some (w.heap.size + 1))) (fun i _ _ => 15 - (intOf i).toNat)
  case atStart => exact ⟨0, Nat.zero_le _, rfl, rfl, by rw [show lineAt 0 = 0 from rfl, mix_zero]; exact hB3, World.grownBy.refl _ _⟩
  case round =>
    obtain ⟨s, hs, rfl, rfl, hM, hgk⟩ := hrel
    by_cases hlt : s < 15
    · have e1 := i64_in ((s : Int) - 8) (by omega)
      have e2 := i64_in ((s : Int) - 8 + 1) (by omega)
      by_cases h8 : s < 8
      · go_wp2
        go_loopw [22, 2] (fun i a wr => ∃ j : Nat, j ≤ min s 7 + 1 - (s - 7) ∧ i = .int .i64 j ∧ a = .int .i64 ((lineAt s + j : Nat) : Int) ∧ wr.heap[w.heap.size + 1]? = some (.cells (sq (mix zzF zs64 (lineAt s + j))) 73 (0, 0)) ∧ w3.grownBy wr (some (w.heap.size + 1))) (fun i _ _ => 64 - (intOf i).toNat)
        case atStart => exact ⟨0, Nat.zero_le _, rfl, rfl, hM, hgk⟩
        case round =>
          obtain ⟨j, hj, rfl, rfl, hMj, hgj⟩ := hrel
          by_cases hltj : j < min s 7 + 1 - (s - 7)
          · have hpos : lineAt s + j < 64 := by have := line_le s hlt; omega
            have hlen : (mix zzF zs64 (lineAt s + j)).length = 64 := (mix_len zzF zs64 _ (by rw [zs64_len]; omega)).trans zs64_len
            have c2 := sq_cell hMj (lineAt s + j) (by omega)
            have f2 := sq_frozen hMj (lineAt s + j)
            have HS : Hid (∀ v, v = zzF (lineAt s + j) → (wr.setCell ⟨w.heap.size + 1, lineAt s + j, none⟩ (.int .i64 v)).heap[w.heap.size + 1]? = some (.cells (sq (mix zzF zs64 (lineAt s + (j + 1)))) 73 (0, 0)) ∧ w3.grownBy (wr.setCell ⟨w.heap.size + 1, lineAt s + j, none⟩ (.int .i64 v)) (some (w.heap.size + 1))) := by
              rintro v rfl
              have hM3 := heap_setCell_same wr (w.heap.size + 1) (lineAt s + j) _ _ (.int .i64 (zzF (lineAt s + j))) hMj
              rw [mix_set zzF zs64 (lineAt s + j) (by rw [zs64_len]; omega)] at hM3
              exact ⟨hM3, grown_trans hgj (grown_set wr (w.heap.size + 1) (lineAt s + j) (.int .i64 (zzF (lineAt s + j))))⟩
            clear hMj hgj hlen
            by_cases hev : s % 2 = 0
            · -- even
              go_wp2
              go_roundw
              case rel => 
                refine ⟨j + 1, by omega, by go_num, congrArg (Value.int .i64) (by omega), (unhide HS _ ?_).1, (unhide HS _ ?_).2⟩
                all_goals
                  rw [zzF_eq, zz_up s hlt j hltj hev]
                  omega
              case measure => simp [intOf]; omega
            · -- odd
              go_wp2
              go_roundw
              case rel => 
                refine ⟨j + 1, by omega, by go_num, congrArg (Value.int .i64) (by omega), (unhide HS _ ?_).1, (unhide HS _ ?_).2⟩
                all_goals
                  rw [zzF_eq, zz_down s hlt j hltj hev]
                  omega
              case measure => simp [intOf]; omega
          · obtain rfl : j = min s 7 + 1 - (s - 7) := by omega
            have hml : lineAt (s + 1) = lineAt s + (min s 7 + 1 - (s - 7)) := rfl
            go_wp2
            go_roundw
            case rel => exact ⟨s + 1, by omega, by go_num, by rw [hml], by rw [hml]; exact hMj, hgj⟩
            case measure => simp [intOf]; omega
      · have e3 := i64_in (7 - ((s : Int) - 8 + 1)) (by omega)
        have e4 := i64_in (7 - ((s : Int) - 8 + 1) + 1) (by omega)
        go_wp2
        go_loopw [22, 2] (fun i a wr => ∃ j : Nat, j ≤ min s 7 + 1 - (s - 7) ∧ i = .int .i64 j ∧ a = .int .i64 ((lineAt s + j : Nat) : Int) ∧ wr.heap[w.heap.size + 1]? = some (.cells (sq (mix zzF zs64 (lineAt s + j))) 73 (0, 0)) ∧ w3.grownBy wr (some (w.heap.size + 1))) (fun i _ _ => 64 - (intOf i).toNat)
        case atStart => exact ⟨0, Nat.zero_le _, rfl, rfl, hM, hgk⟩
        case round =>
          obtain ⟨j, hj, rfl, rfl, hMj, hgj⟩ := hrel
          by_cases hltj : j < min s 7 + 1 - (s - 7)
          · have hpos : lineAt s + j < 64 := by have := line_le s hlt; omega
            have hlen : (mix zzF zs64 (lineAt s + j)).length = 64 := (mix_len zzF zs64 _ (by rw [zs64_len]; omega)).trans zs64_len
            have c2 := sq_cell hMj (lineAt s + j) (by omega)
            have f2 := sq_frozen hMj (lineAt s + j)
            have HS : Hid (∀ v, v = zzF (lineAt s + j) → (wr.setCell ⟨w.heap.size + 1, lineAt s + j, none⟩ (.int .i64 v)).heap[w.heap.size + 1]? = some (.cells (sq (mix zzF zs64 (lineAt s + (j + 1)))) 73 (0, 0)) ∧ w3.grownBy (wr.setCell ⟨w.heap.size + 1, lineAt s + j, none⟩ (.int .i64 v)) (some (w.heap.size + 1))) := by
              rintro v rfl
              have hM3 := heap_setCell_same wr (w.heap.size + 1) (lineAt s + j) _ _ (.int .i64 (zzF (lineAt s + j))) hMj
              rw [mix_set zzF zs64 (lineAt s + j) (by rw [zs64_len]; omega)] at hM3
              exact ⟨hM3, grown_trans hgj (grown_set wr (w.heap.size + 1) (lineAt s + j) (.int .i64 (zzF (lineAt s + j))))⟩
            clear hMj hgj hlen
            by_cases hev : s % 2 = 0
            · -- even
              go_wp2
              go_roundw
              case rel => 
                refine ⟨j + 1, by omega, by go_num, congrArg (Value.int .i64) (by omega), (unhide HS _ ?_).1, (unhide HS _ ?_).2⟩
                all_goals
                  rw [zzF_eq, zz_up s hlt j hltj hev]
                  omega
              case measure => simp [intOf]; omega
            · -- odd
              go_wp2
              go_roundw
              case rel => 
                refine ⟨j + 1, by omega, by go_num, congrArg (Value.int .i64) (by omega), (unhide HS _ ?_).1, (unhide HS _ ?_).2⟩
                all_goals
                  rw [zzF_eq, zz_down s hlt j hltj hev]
                  omega
              case measure => simp [intOf]; omega
          · obtain rfl : j = min s 7 + 1 - (s - 7) := by omega
            have hml : lineAt (s + 1) = lineAt s + (min s 7 + 1 - (s - 7)) := rfl
            go_wp2
            go_roundw
            case rel => exact ⟨s + 1, by omega, by go_num, by rw [hml], by rw [hml]; exact hMj, hgj⟩
            case measure => simp [intOf]; omega
    · obtain rfl : s = 15 := by omega
      rw [line_end, mix_all zzF zs64 zs64_len, zz_made] at hM
      have hbr := (hgk.block w.heap.size (by have := g3.size; omega) (by simp)).trans ((g3.block w.heap.size (by omega) (by simp)).trans (unhide B0))
      have HM := hide hM
      have HBR := hide hbr
      have HMS : Hid ((sq zzL).size = 64) := by unfold Hid; rw [sq_size, zz_len]
      have HGF : Hid (w.grownBy wr none) := grown_new (unhide HG0) (grown_trans g3 hgk) (fun g e => by simp at e; omega)
      clear hM hbr hgk g3
      go_wp2_with (first | (refine load_row rfl 73 _ rfl (w.heap.size + 1) rfl (sq zzL) 73 (unhide HM) _ Try.underlying73 rfl (by rw [unhide HMS]; kernel_rfl) ?_) | (refine store_row rfl 73 _ _ rfl w.heap.size rfl (sq zzL) rfl (sq zs64) 73 (unhide HBR) (by rw [unhide HMS, sq_size, zs64_len]) (by rw [unhide HMS]; kernel_rfl) (sq_one _) ?_; intro w4 hB4 g4))
      refine bodyPost_ret (v := .agg (sq zzL)) ?_ rfl ⟨rfl, ?_⟩
      · rw [results_c1 rfl]
        exact run_loadVar_row w4 _ 73 73 _ (0, 0) _ hB4 Try.underlying73 rfl (by rw [unhide HMS]; kernel_rfl)
      · exact grown_new (unhide HGF) g4 (fun g e => by simp at e; omega)

end Go.Proofs.Ytfgglainjaplgaa

namespace Go.Proofs.Ytfgglainjaplgaa
open Go.RowKit Go.Shelf

theorem z64_one : (#[.int .i64 0, .int .i64 0, .int .i64 0, .int .i64 0, .int .i64 0, .int .i64 0, .int .i64 0, .int .i64 0, .int .i64 0, .int .i64 0, .int .i64 0, .int .i64 0, .int .i64 0, .int .i64 0, .int .i64 0, .int .i64 0, .int .i64 0, .int .i64 0, .int .i64 0, .int .i64 0, .int .i64 0, .int .i64 0, .int .i64 0, .int .i64 0, .int .i64 0, .int .i64 0, .int .i64 0, .int .i64 0, .int .i64 0, .int .i64 0, .int .i64 0, .int .i64 0, .int .i64 0, .int .i64 0, .int .i64 0, .int .i64 0, .int .i64 0, .int .i64 0, .int .i64 0, .int .i64 0, .int .i64 0, .int .i64 0, .int .i64 0, .int .i64 0, .int .i64 0, .int .i64 0, .int .i64 0, .int .i64 0, .int .i64 0, .int .i64 0, .int .i64 0, .int .i64 0, .int .i64 0, .int .i64 0, .int .i64 0, .int .i64 0, .int .i64 0, .int .i64 0, .int .i64 0, .int .i64 0, .int .i64 0, .int .i64 0, .int .i64 0, .int .i64 0] : Array Value).all (·.oneCell') = true := by rw [← sq_z64]; exact sq_one _

set_option maxRecDepth 20000 in
set_option maxHeartbeats 800000 in
/-- A list that is no square. -/
theorem fixSquare_no (ao : Option Addr) (n cap : Nat) (g : Value) (w : World) (h : n ≠ 64) :
    Calls Try.prog 69 #[.slice ao n cap, g] w fun e w' => e = .returned (.tuple #[.agg (sq zs64), .bool false]) ∧ w.grownBy w' none := by
  have hne : ((n : Int) != 64) = true := by simp; omega
  clear h
  go_enter Try.func69, Try.ntmps69
  go_wp2_with (refine store_row rfl 73 _ _ rfl w.heap.size rfl #[.int .i64 0, .int .i64 0, .int .i64 0, .int .i64 0, .int .i64 0, .int .i64 0, .int .i64 0, .int .i64 0, .int .i64 0, .int .i64 0, .int .i64 0, .int .i64 0, .int .i64 0, .int .i64 0, .int .i64 0, .int .i64 0, .int .i64 0, .int .i64 0, .int .i64 0, .int .i64 0, .int .i64 0, .int .i64 0, .int .i64 0, .int .i64 0, .int .i64 0, .int .i64 0, .int .i64 0, .int .i64 0, .int .i64 0, .int .i64 0, .int .i64 0, .int .i64 0, .int .i64 0, .int .i64 0, .int .i64 0, .int .i64 0, .int .i64 0, .int .i64 0, .int .i64 0, .int .i64 0, .int .i64 0, .int .i64 0, .int .i64 0, .int .i64 0, .int .i64 0, .int .i64 0, .int .i64 0, .int .i64 0, .int .i64 0, .int .i64 0, .int .i64 0, .int .i64 0, .int .i64 0, .int .i64 0, .int .i64 0, .int .i64 0, .int .i64 0, .int .i64 0, .int .i64 0, .int .i64 0, .int .i64 0, .int .i64 0, .int .i64 0, .int .i64 0] rfl #[.int .i64 0, .int .i64 0, .int .i64 0, .int .i64 0, .int .i64 0, .int .i64 0, .int .i64 0, .int .i64 0, .int .i64 0, .int .i64 0, .int .i64 0, .int .i64 0, .int .i64 0, .int .i64 0, .int .i64 0, .int .i64 0, .int .i64 0, .int .i64 0, .int .i64 0, .int .i64 0, .int .i64 0, .int .i64 0, .int .i64 0, .int .i64 0, .int .i64 0, .int .i64 0, .int .i64 0, .int .i64 0, .int .i64 0, .int .i64 0, .int .i64 0, .int .i64 0, .int .i64 0, .int .i64 0, .int .i64 0, .int .i64 0, .int .i64 0, .int .i64 0, .int .i64 0, .int .i64 0, .int .i64 0, .int .i64 0, .int .i64 0, .int .i64 0, .int .i64 0, .int .i64 0, .int .i64 0, .int .i64 0, .int .i64 0, .int .i64 0, .int .i64 0, .int .i64 0, .int .i64 0, .int .i64 0, .int .i64 0, .int .i64 0, .int .i64 0, .int .i64 0, .int .i64 0, .int .i64 0, .int .i64 0, .int .i64 0, .int .i64 0, .int .i64 0] 73 (heap_alloc_new _ _) rfl (by kernel_rfl) z64_one ?_; intro w3 hB3 g3)
  rw [← sq_z64] at hB3
  refine bodyPost_ret (v := .tuple #[.agg (sq zs64), .bool false]) ?_ rfl ⟨rfl, ?_⟩
  · exact results_c2 (p := 4) (q := 5) (ty := 73) rfl _ _ _ w.heap.size rfl _ (run_loadVar_row w3 _ 73 73 _ (0, 0) _ hB3 Try.underlying73 rfl (by rw [sq_size, zs64_len]; kernel_rfl))
  · exact grown_new (World.grownBy_alloc _ _ _) g3 (fun g e => by simp at e; omega)

set_option maxRecDepth 20000 in
set_option maxHeartbeats 800000 in
/-- A list as a square, and whether f leaves each of its numbers. -/
theorem fixSquare_yes (b off cap : Nat) (zs : List Int) (w : World) (hr : Rd .i64 w (some ⟨b, off, none⟩) 64 zs) (f : Nat → Int) (g : Nat) (lb : Array Value) (eg : ∀ args w, (callFunc g args).run Try.prog w = .ok (.enter g args) w)
    (HC : Hid (∀ k, k < 64 → ∀ W, w.grownBy W none → Calls Try.prog g (#[.int .i64 (zs.getD k 0)] ++ lb) W fun e W' => e = .returned (.int .i64 (f k)) ∧ W.grownBy W' none)) :
    Calls Try.prog 69 #[.slice (some ⟨b, off, none⟩) 64 cap, .func (.func g) #[] lb] w fun e w' => e = .returned (.tuple #[.agg (sq zs), .bool (zs == made f)]) ∧ w.grownBy w' none := by
  have hz : zs.length = 64 := hr.1
  have HR := hide hr
  clear hr
  have HZ := hide hz
  clear hz
  have har : ∀ w, (Instr.arrayAt 73 (.slice (some ⟨b, off, none⟩) 64 cap)).run Try.prog w = .ok (.pointer (some ⟨b, off, none⟩)) w := fun w => by kernel_rfl
  have HSL : Hid ((sq zs).size = 64) := by unfold Hid; rw [sq_size, unhide HZ]
  have HLD : ∀ (w : World) (g : Nat), w.heap[g]? = some (.cells (sq zs) 73 (0, 0)) → (loadVar 73 ⟨g, 0, none⟩).run Try.prog w = .ok (.agg (sq zs)) w := fun w g h => run_loadVar_row w g 73 73 _ (0, 0) _ h Try.underlying73 rfl (by rw [unhide HSL]; kernel_rfl)
  have HLD' := hide HLD
  clear HLD
  obtain ⟨W0, hW0⟩ : ∃ W0, (w.alloc (.cells #[.int .i64 0, .int .i64 0, .int .i64 0, .int .i64 0, .int .i64 0, .int .i64 0, .int .i64 0, .int .i64 0, .int .i64 0, .int .i64 0, .int .i64 0, .int .i64 0, .int .i64 0, .int .i64 0, .int .i64 0, .int .i64 0, .int .i64 0, .int .i64 0, .int .i64 0, .int .i64 0, .int .i64 0, .int .i64 0, .int .i64 0, .int .i64 0, .int .i64 0, .int .i64 0, .int .i64 0, .int .i64 0, .int .i64 0, .int .i64 0, .int .i64 0, .int .i64 0, .int .i64 0, .int .i64 0, .int .i64 0, .int .i64 0, .int .i64 0, .int .i64 0, .int .i64 0, .int .i64 0, .int .i64 0, .int .i64 0, .int .i64 0, .int .i64 0, .int .i64 0, .int .i64 0, .int .i64 0, .int .i64 0, .int .i64 0, .int .i64 0, .int .i64 0, .int .i64 0, .int .i64 0, .int .i64 0, .int .i64 0, .int .i64 0, .int .i64 0, .int .i64 0, .int .i64 0, .int .i64 0, .int .i64 0, .int .i64 0, .int .i64 0, .int .i64 0] 73)).alloc (.cells #[.int .i64 0, .int .i64 0, .int .i64 0, .int .i64 0, .int .i64 0, .int .i64 0, .int .i64 0, .int .i64 0, .int .i64 0, .int .i64 0, .int .i64 0, .int .i64 0, .int .i64 0, .int .i64 0, .int .i64 0, .int .i64 0, .int .i64 0, .int .i64 0, .int .i64 0, .int .i64 0, .int .i64 0, .int .i64 0, .int .i64 0, .int .i64 0, .int .i64 0, .int .i64 0, .int .i64 0, .int .i64 0, .int .i64 0, .int .i64 0, .int .i64 0, .int .i64 0, .int .i64 0, .int .i64 0, .int .i64 0, .int .i64 0, .int .i64 0, .int .i64 0, .int .i64 0, .int .i64 0, .int .i64 0, .int .i64 0, .int .i64 0, .int .i64 0, .int .i64 0, .int .i64 0, .int .i64 0, .int .i64 0, .int .i64 0, .int .i64 0, .int .i64 0, .int .i64 0, .int .i64 0, .int .i64 0, .int .i64 0, .int .i64 0, .int .i64 0, .int .i64 0, .int .i64 0, .int .i64 0, .int .i64 0, .int .i64 0, .int .i64 0, .int .i64 0] 73) = W0 := ⟨_, rfl⟩
  have G0 : w.grownBy W0 none := by rw [← hW0]; exact grown_alloc (World.grownBy_alloc _ _ _) _
  have b0 : W0.heap[w.heap.size]? = some (.cells (sq zs64) 73 (0, 0)) := by rw [← hW0, sq_z64, Below.heap_alloc _ _ _ (by simp)]; exact heap_alloc_new w _
  have b1 : W0.heap[w.heap.size + 1]? = some (.cells (sq zs64) 73 (0, 0)) := by
    rw [← hW0, sq_z64]
    have := heap_alloc_new (w.alloc (.cells #[.int .i64 0, .int .i64 0, .int .i64 0, .int .i64 0, .int .i64 0, .int .i64 0, .int .i64 0, .int .i64 0, .int .i64 0, .int .i64 0, .int .i64 0, .int .i64 0, .int .i64 0, .int .i64 0, .int .i64 0, .int .i64 0, .int .i64 0, .int .i64 0, .int .i64 0, .int .i64 0, .int .i64 0, .int .i64 0, .int .i64 0, .int .i64 0, .int .i64 0, .int .i64 0, .int .i64 0, .int .i64 0, .int .i64 0, .int .i64 0, .int .i64 0, .int .i64 0, .int .i64 0, .int .i64 0, .int .i64 0, .int .i64 0, .int .i64 0, .int .i64 0, .int .i64 0, .int .i64 0, .int .i64 0, .int .i64 0, .int .i64 0, .int .i64 0, .int .i64 0, .int .i64 0, .int .i64 0, .int .i64 0, .int .i64 0, .int .i64 0, .int .i64 0, .int .i64 0, .int .i64 0, .int .i64 0, .int .i64 0, .int .i64 0, .int .i64 0, .int .i64 0, .int .i64 0, .int .i64 0, .int .i64 0, .int .i64 0, .int .i64 0, .int .i64 0] 73)) (.cells #[.int .i64 0, .int .i64 0, .int .i64 0, .int .i64 0, .int .i64 0, .int .i64 0, .int .i64 0, .int .i64 0, .int .i64 0, .int .i64 0, .int .i64 0, .int .i64 0, .int .i64 0, .int .i64 0, .int .i64 0, .int .i64 0, .int .i64 0, .int .i64 0, .int .i64 0, .int .i64 0, .int .i64 0, .int .i64 0, .int .i64 0, .int .i64 0, .int .i64 0, .int .i64 0, .int .i64 0, .int .i64 0, .int .i64 0, .int .i64 0, .int .i64 0, .int .i64 0, .int .i64 0, .int .i64 0, .int .i64 0, .int .i64 0, .int .i64 0, .int .i64 0, .int .i64 0, .int .i64 0, .int .i64 0, .int .i64 0, .int .i64 0, .int .i64 0, .int .i64 0, .int .i64 0, .int .i64 0, .int .i64 0, .int .i64 0, .int .i64 0, .int .i64 0, .int .i64 0, .int .i64 0, .int .i64 0, .int .i64 0, .int .i64 0, .int .i64 0, .int .i64 0, .int .i64 0, .int .i64 0, .int .i64 0, .int .i64 0, .int .i64 0, .int .i64 0] 73)
    simpa using this
  have s0 : W0.heap.size = w.heap.size + 2 := by rw [← hW0]; simp
  have HW := hide hW0
  have B0 := hide b0
  have B1 := hide b1
  have HG0 := hide G0
  clear hW0 b0 b1 G0
  go_enter Try.func69, Try.ntmps69
  go_wp2_with (first | (refine load_mid rfl 73 _ rfl b off rfl (sq zs) (sq_rd ((unhide HR).grown (World.grownBy_alloc _ _ _))) _ Try.underlying73 rfl (by rw [unhide HSL]; kernel_rfl) ?_) | (rw [unhide HW]; clear HW; refine store_row rfl 73 _ _ rfl (w.heap.size + 1) rfl (sq zs) rfl (sq zs64) 73 (unhide B1) (by rw [unhide HSL, sq_size, zs64_len]) (by rw [unhide HSL]; kernel_rfl) (sq_one zs) ?_; intro w3 hB3 g3))
  have hG3 : w.grownBy w3 none := grown_new (unhide HG0) g3 (fun g e => by simp at e; omega)
  have hR3 := (g3.block w.heap.size (by omega) (by simp)).trans (unhide B0)
  have s3 := g3.size
  have HSQ := hide (eqSq (zs := zs) (ys := made f) (unhide HZ) (made_len f))
  refine wp_region_noPanic ?_
  refine wp_region_raw (fun w' => w'.heap[w.heap.size + 1]? = some (.cells (sq zs) 73 (0, 0))) [true, true, true, true, false, false, false, false] (by kernel_rfl) (fun _ _ _ _ _ h => h) rfl (by kernel_rfl) hB3 ?_
  iterate 3
    refine heldF_take (v := .agg (sq zs)) (Or.inl ⟨by rfl, ?_⟩) ?_
    · intro w' hSw
      exact exec_row 73 _ rfl (w.heap.size + 1) rfl (sq zs) 73 hSw _ Try.underlying73 rfl (by rw [unhide HSL]; kernel_rfl)
    simp only [Act.put, List.setIfInBounds_toArray, List.set_cons_zero, List.set_cons_succ]
  refine heldF_take (v := ?_) (Or.inl ⟨by rfl, ?_⟩) ?_
  rotate_left 1
  · intro w' hSw
    go_simp
    try with_reducible rfl
  simp only [Act.put, List.setIfInBounds_toArray, List.set_cons_zero, List.set_cons_succ]
  refine heldF_skip (heldF_skip (heldF_skip (heldF_skip (heldF_nil ?_))))
  refine anyH_step1 (i := 4) rfl (by kernel_rfl) (fun K hK => ?_)
  go_simp
  refine (each zs (unhide HZ) f g lb eg _ (fun k hk W hW => unhide HC k hk W (grown_trans (grown_drew hG3) hW))).mono ?_
  rintro e w4 ⟨rfl, g4⟩
  have hB4 := (g4.block (w.heap.size + 1) (by show w.heap.size + 1 < w3.heap.size; omega) (by simp)).trans hB3
  have hR4 := (g4.block w.heap.size (by show w.heap.size < w3.heap.size; omega) (by simp)).trans hR3
  have hG4 : w.grownBy w4 none := grown_trans (grown_drew hG3) g4
  refine hK.out _ _ hB4 ?_
  clear hK K
  try simp only [Act.put, List.setIfInBounds_toArray, List.set_cons_zero, List.set_cons_succ]
  refine anyH_step2 (i := 5) (j := 6) rfl rfl (by kernel_rfl) (fun K hK => ?_) (fun K hK => ?_)
  · have hsq := unhide HSQ
    go_simp
    refine hK.out _ _ hB4 ?_
    clear hK K hsq
    try simp only [Act.put, List.setIfInBounds_toArray, List.set_cons_zero, List.set_cons_succ]
    refine anyH_step1 (i := 6) rfl (by kernel_rfl) (fun K hK => ?_)
    refine step_store_row (by rfl) 73 _ _ rfl w.heap.size rfl (sq zs) rfl (sq zs64) 73 hR4 (by rw [unhide HSL, sq_size, zs64_len]) (by rw [unhide HSL]; kernel_rfl) (sq_one zs) ?_
    intro w5 hB5 g5
    have hB5' := (g5.block (w.heap.size + 1) (Array.getElem?_eq_some_iff.1 hB4).1 (by simp)).trans hB4
    refine hK.out _ _ hB5' ?_
    clear hK K
    try simp only [Act.put]
    refine anyH_step1 (i := 7) rfl (by kernel_rfl) (fun K hK => ?_)
    go_simp
    refine hK.out _ _ hB5' ?_
    clear hK K
    try simp only [Act.put, List.setIfInBounds_toArray, List.set_cons_zero, List.set_cons_succ]
    refine wpAnyH_done (by kernel_rfl) (NoPanic.normal ?_) _
    go_wp2
    refine bodyPost_ret (v := .tuple #[.agg (sq zs), .bool (zs == made f)]) ?_ rfl ⟨rfl, ?_⟩
    · exact results_c2 (p := 4) (q := 5) (ty := 73) rfl _ _ _ w.heap.size rfl _ (unhide HLD' _ _ hB5)
    · exact grown_new hG4 g5 (fun g e => by simp at e; omega)
  · refine step_store_row (by rfl) 73 _ _ rfl w.heap.size rfl (sq zs) rfl (sq zs64) 73 hR4 (by rw [unhide HSL, sq_size, zs64_len]) (by rw [unhide HSL]; kernel_rfl) (sq_one zs) ?_
    intro w5 hB5 g5
    have hB5' := (g5.block (w.heap.size + 1) (Array.getElem?_eq_some_iff.1 hB4).1 (by simp)).trans hB4
    refine hK.out _ _ hB5' ?_
    clear hK K
    try simp only [Act.put]
    refine anyH_step1 (i := 5) rfl (by kernel_rfl) (fun K hK => ?_)
    have hsq := unhide HSQ
    go_simp
    refine hK.out _ _ hB5' ?_
    clear hK K hsq
    try simp only [Act.put, List.setIfInBounds_toArray, List.set_cons_zero, List.set_cons_succ]
    refine anyH_step1 (i := 7) rfl (by kernel_rfl) (fun K hK => ?_)
    go_simp
    refine hK.out _ _ hB5' ?_
    clear hK K
    try simp only [Act.put, List.setIfInBounds_toArray, List.set_cons_zero, List.set_cons_succ]
    refine wpAnyH_done (by kernel_rfl) (NoPanic.normal ?_) _
    go_wp2
    refine bodyPost_ret (v := .tuple #[.agg (sq zs), .bool (zs == made f)]) ?_ rfl ⟨rfl, ?_⟩
    · exact results_c2 (p := 4) (q := 5) (ty := 73) rfl _ _ _ w.heap.size rfl _ (unhide HLD' _ _ hB5)
    · exact grown_new hG4 g5 (fun g e => by simp at e; omega)

/-- A block that is ok, a table that is ok. -/
def numsB (lo hi : Int) (zs : List Int) : Bool := decide (zs.length = 64) && zs.all (fun n => decide (lo ≤ n ∧ n ≤ hi))
theorem clip_same {lo hi : Int} (h : lo ≤ hi) (zs : List Int) (hz : zs.length = 64) : (zs == made (fun k => min (max (zs.getD k 0) lo) hi)) = numsB lo hi zs := by
  rw [Bool.eq_iff_iff]
  simp only [numsB, hz, decide_true, Bool.true_and, beq_iff_eq, List.all_eq_true, decide_eq_true_eq]
  constructor
  · intro e n hn
    obtain ⟨i, hi', rfl⟩ := List.getElem_of_mem hn
    have h1 : zs.getD i 0 = (made (fun k => min (max (zs.getD k 0) lo) hi)).getD i 0 := by rw [← e]
    rw [made_at _ i (by omega)] at h1
    have h2 : zs.getD i 0 = zs[i] := by simp [hi']
    rw [h2] at h1
    omega
  · intro hall
    apply List.ext_getElem?
    intro i
    by_cases hi' : i < zs.length
    · have h1 := hall zs[i] (List.getElem_mem hi')
      rw [List.getElem?_eq_getElem hi', List.getElem?_eq_getElem (by rw [made_len]; omega)]
      simp only [made, List.getElem_map, List.getElem_range, Option.some.injEq]
      have h2 : zs.getD i 0 = zs[i] := by simp [hi']
      rw [h2]
      omega
    · rw [List.getElem?_eq_none (by omega), List.getElem?_eq_none (by rw [made_len]; omega)]

end Go.Proofs.Ytfgglainjaplgaa

namespace Go.Proofs.Ytfgglainjaplgaa
open Go.RowKit

def zz (k : Nat) : Nat := zzN.getD k 0
/-- Where a place stands in the order of waves. -/
def zzI (p : Nat) : Nat := zzN.idxOf p
theorem zz_lt : ∀ k, k < 64 → zz k < 64 := by decide
theorem zzI_zz : ∀ k, k < 64 → zzI (zz k) = k := by decide
theorem zz_zzI : ∀ p, p < 64 → zz (zzI p) = p := by decide
theorem zzI_lt : ∀ p, p < 64 → zzI p < 64 := by decide
def zigged (zs : List Int) : List Int := made (fun k => zs.getD (zz k) 0)
def unzigged (zs : List Int) : List Int := made (fun p => zs.getD (zzI p) 0)
/-- What has been put back behind k steps. -/
def unzTo (zs : List Int) (k : Nat) : List Int := made (fun p => if zzI p < k then zs.getD (zzI p) 0 else 0)
theorem unz_zero (zs : List Int) : unzTo zs 0 = zs64 := by
  simp only [unzTo, Nat.not_lt_zero, if_false]
  rfl
theorem unz_all (zs : List Int) : unzTo zs 64 = unzigged zs := made_congr (fun p hp => if_pos (zzI_lt p hp))
theorem unz_set (zs : List Int) (k : Nat) (h : k < 64) : (sq (unzTo zs k)).setIfInBounds (zz k) (.int .i64 (zs.getD k 0)) = sq (unzTo zs (k + 1)) := by
  unfold unzTo
  rw [made_set _ _ _ (zz_lt k h)]
  congr 1
  apply made_congr
  intro p hp
  by_cases e : p = zz k
  · subst e; simp [zzI_zz k h]
  · have hne : zzI p ≠ k := fun e2 => e (by rw [← e2, zz_zzI p hp])
    by_cases h1 : zzI p < k
    · simp [e, h1, show zzI p < k + 1 by omega]
    · simp [e, h1, show ¬ zzI p < k + 1 by omega]

set_option maxRecDepth 20000 in
set_option maxHeartbeats 1600000 in
theorem toZig (zs : List Int) (hz : zs.length = 64) (w : World) :
    Calls Try.prog 64 #[.agg (sq zs)] w fun e w' => e = .returned (.agg (sq (zigged zs))) ∧ w.grownBy w' none := by
  obtain ⟨W0, hW0⟩ : ∃ W0, ((w.alloc (.cells (sq zs) 73)).alloc (.cells #[.int .i64 0, .int .i64 0, .int .i64 0, .int .i64 0, .int .i64 0, .int .i64 0, .int .i64 0, .int .i64 0, .int .i64 0, .int .i64 0, .int .i64 0, .int .i64 0, .int .i64 0, .int .i64 0, .int .i64 0, .int .i64 0, .int .i64 0, .int .i64 0, .int .i64 0, .int .i64 0, .int .i64 0, .int .i64 0, .int .i64 0, .int .i64 0, .int .i64 0, .int .i64 0, .int .i64 0, .int .i64 0, .int .i64 0, .int .i64 0, .int .i64 0, .int .i64 0, .int .i64 0, .int .i64 0, .int .i64 0, .int .i64 0, .int .i64 0, .int .i64 0, .int .i64 0, .int .i64 0, .int .i64 0, .int .i64 0, .int .i64 0, .int .i64 0, .int .i64 0, .int .i64 0, .int .i64 0, .int .i64 0, .int .i64 0, .int .i64 0, .int .i64 0, .int .i64 0, .int .i64 0, .int .i64 0, .int .i64 0, .int .i64 0, .int .i64 0, .int .i64 0, .int .i64 0, .int .i64 0, .int .i64 0, .int .i64 0, .int .i64 0, .int .i64 0] 73)).alloc (.cells #[.int .i64 0, .int .i64 0, .int .i64 0, .int .i64 0, .int .i64 0, .int .i64 0, .int .i64 0, .int .i64 0, .int .i64 0, .int .i64 0, .int .i64 0, .int .i64 0, .int .i64 0, .int .i64 0, .int .i64 0, .int .i64 0, .int .i64 0, .int .i64 0, .int .i64 0, .int .i64 0, .int .i64 0, .int .i64 0, .int .i64 0, .int .i64 0, .int .i64 0, .int .i64 0, .int .i64 0, .int .i64 0, .int .i64 0, .int .i64 0, .int .i64 0, .int .i64 0, .int .i64 0, .int .i64 0, .int .i64 0, .int .i64 0, .int .i64 0, .int .i64 0, .int .i64 0, .int .i64 0, .int .i64 0, .int .i64 0, .int .i64 0, .int .i64 0, .int .i64 0, .int .i64 0, .int .i64 0, .int .i64 0, .int .i64 0, .int .i64 0, .int .i64 0, .int .i64 0, .int .i64 0, .int .i64 0, .int .i64 0, .int .i64 0, .int .i64 0, .int .i64 0, .int .i64 0, .int .i64 0, .int .i64 0, .int .i64 0, .int .i64 0, .int .i64 0] 73) = W0 := ⟨_, rfl⟩
  have G0 : w.grownBy W0 none := by rw [← hW0]; exact grown_alloc (grown_alloc (World.grownBy_alloc _ _ _) _) _
  have b0 : W0.heap[w.heap.size]? = some (.cells (sq zs) 73 (0, 0)) := by rw [← hW0, Below.heap_alloc _ _ _ (by simp; omega), Below.heap_alloc _ _ _ (by simp)]; exact heap_alloc_new w _
  have b1 : W0.heap[w.heap.size + 1]? = some (.cells (sq zs64) 73 (0, 0)) := by
    rw [← hW0, Below.heap_alloc _ _ _ (by simp), sq_z64]
    have := heap_alloc_new (w.alloc (.cells (sq zs) 73)) (.cells #[.int .i64 0, .int .i64 0, .int .i64 0, .int .i64 0, .int .i64 0, .int .i64 0, .int .i64 0, .int .i64 0, .int .i64 0, .int .i64 0, .int .i64 0, .int .i64 0, .int .i64 0, .int .i64 0, .int .i64 0, .int .i64 0, .int .i64 0, .int .i64 0, .int .i64 0, .int .i64 0, .int .i64 0, .int .i64 0, .int .i64 0, .int .i64 0, .int .i64 0, .int .i64 0, .int .i64 0, .int .i64 0, .int .i64 0, .int .i64 0, .int .i64 0, .int .i64 0, .int .i64 0, .int .i64 0, .int .i64 0, .int .i64 0, .int .i64 0, .int .i64 0, .int .i64 0, .int .i64 0, .int .i64 0, .int .i64 0, .int .i64 0, .int .i64 0, .int .i64 0, .int .i64 0, .int .i64 0, .int .i64 0, .int .i64 0, .int .i64 0, .int .i64 0, .int .i64 0, .int .i64 0, .int .i64 0, .int .i64 0, .int .i64 0, .int .i64 0, .int .i64 0, .int .i64 0, .int .i64 0, .int .i64 0, .int .i64 0, .int .i64 0, .int .i64 0] 73)
    simpa using this
  have b2 : W0.heap[w.heap.size + 2]? = some (.cells #[.int .i64 0, .int .i64 0, .int .i64 0, .int .i64 0, .int .i64 0, .int .i64 0, .int .i64 0, .int .i64 0, .int .i64 0, .int .i64 0, .int .i64 0, .int .i64 0, .int .i64 0, .int .i64 0, .int .i64 0, .int .i64 0, .int .i64 0, .int .i64 0, .int .i64 0, .int .i64 0, .int .i64 0, .int .i64 0, .int .i64 0, .int .i64 0, .int .i64 0, .int .i64 0, .int .i64 0, .int .i64 0, .int .i64 0, .int .i64 0, .int .i64 0, .int .i64 0, .int .i64 0, .int .i64 0, .int .i64 0, .int .i64 0, .int .i64 0, .int .i64 0, .int .i64 0, .int .i64 0, .int .i64 0, .int .i64 0, .int .i64 0, .int .i64 0, .int .i64 0, .int .i64 0, .int .i64 0, .int .i64 0, .int .i64 0, .int .i64 0, .int .i64 0, .int .i64 0, .int .i64 0, .int .i64 0, .int .i64 0, .int .i64 0, .int .i64 0, .int .i64 0, .int .i64 0, .int .i64 0, .int .i64 0, .int .i64 0, .int .i64 0, .int .i64 0] 73 (0, 0)) := by
    rw [← hW0]
    have := heap_alloc_new ((w.alloc (.cells (sq zs) 73)).alloc (.cells #[.int .i64 0, .int .i64 0, .int .i64 0, .int .i64 0, .int .i64 0, .int .i64 0, .int .i64 0, .int .i64 0, .int .i64 0, .int .i64 0, .int .i64 0, .int .i64 0, .int .i64 0, .int .i64 0, .int .i64 0, .int .i64 0, .int .i64 0, .int .i64 0, .int .i64 0, .int .i64 0, .int .i64 0, .int .i64 0, .int .i64 0, .int .i64 0, .int .i64 0, .int .i64 0, .int .i64 0, .int .i64 0, .int .i64 0, .int .i64 0, .int .i64 0, .int .i64 0, .int .i64 0, .int .i64 0, .int .i64 0, .int .i64 0, .int .i64 0, .int .i64 0, .int .i64 0, .int .i64 0, .int .i64 0, .int .i64 0, .int .i64 0, .int .i64 0, .int .i64 0, .int .i64 0, .int .i64 0, .int .i64 0, .int .i64 0, .int .i64 0, .int .i64 0, .int .i64 0, .int .i64 0, .int .i64 0, .int .i64 0, .int .i64 0, .int .i64 0, .int .i64 0, .int .i64 0, .int .i64 0, .int .i64 0, .int .i64 0, .int .i64 0, .int .i64 0] 73)) (.cells #[.int .i64 0, .int .i64 0, .int .i64 0, .int .i64 0, .int .i64 0, .int .i64 0, .int .i64 0, .int .i64 0, .int .i64 0, .int .i64 0, .int .i64 0, .int .i64 0, .int .i64 0, .int .i64 0, .int .i64 0, .int .i64 0, .int .i64 0, .int .i64 0, .int .i64 0, .int .i64 0, .int .i64 0, .int .i64 0, .int .i64 0, .int .i64 0, .int .i64 0, .int .i64 0, .int .i64 0, .int .i64 0, .int .i64 0, .int .i64 0, .int .i64 0, .int .i64 0, .int .i64 0, .int .i64 0, .int .i64 0, .int .i64 0, .int .i64 0, .int .i64 0, .int .i64 0, .int .i64 0, .int .i64 0, .int .i64 0, .int .i64 0, .int .i64 0, .int .i64 0, .int .i64 0, .int .i64 0, .int .i64 0, .int .i64 0, .int .i64 0, .int .i64 0, .int .i64 0, .int .i64 0, .int .i64 0, .int .i64 0, .int .i64 0, .int .i64 0, .int .i64 0, .int .i64 0, .int .i64 0, .int .i64 0, .int .i64 0, .int .i64 0, .int .i64 0] 73)
    simpa using this
  have s0 : W0.heap.size = w.heap.size + 3 := by rw [← hW0]; simp
  have HW := hide hW0
  have B0 := hide b0
  have B1 := hide b1
  have B2 := hide b2
  have HG0 := hide G0
  have HZ := hide hz
  clear hW0 b0 b1 b2 G0 hz
  go_enter Try.func64, Try.ntmps64
  go_wp2_with (rw [unhide HW]; clear HW; refine store_row rfl 73 _ _ rfl (w.heap.size + 2) rfl #[.int .i64 0, .int .i64 0, .int .i64 0, .int .i64 0, .int .i64 0, .int .i64 0, .int .i64 0, .int .i64 0, .int .i64 0, .int .i64 0, .int .i64 0, .int .i64 0, .int .i64 0, .int .i64 0, .int .i64 0, .int .i64 0, .int .i64 0, .int .i64 0, .int .i64 0, .int .i64 0, .int .i64 0, .int .i64 0, .int .i64 0, .int .i64 0, .int .i64 0, .int .i64 0, .int .i64 0, .int .i64 0, .int .i64 0, .int .i64 0, .int .i64 0, .int .i64 0, .int .i64 0, .int .i64 0, .int .i64 0, .int .i64 0, .int .i64 0, .int .i64 0, .int .i64 0, .int .i64 0, .int .i64 0, .int .i64 0, .int .i64 0, .int .i64 0, .int .i64 0, .int .i64 0, .int .i64 0, .int .i64 0, .int .i64 0, .int .i64 0, .int .i64 0, .int .i64 0, .int .i64 0, .int .i64 0, .int .i64 0, .int .i64 0, .int .i64 0, .int .i64 0, .int .i64 0, .int .i64 0, .int .i64 0, .int .i64 0, .int .i64 0, .int .i64 0] rfl #[.int .i64 0, .int .i64 0, .int .i64 0, .int .i64 0, .int .i64 0, .int .i64 0, .int .i64 0, .int .i64 0, .int .i64 0, .int .i64 0, .int .i64 0, .int .i64 0, .int .i64 0, .int .i64 0, .int .i64 0, .int .i64 0, .int .i64 0, .int .i64 0, .int .i64 0, .int .i64 0, .int .i64 0, .int .i64 0, .int .i64 0, .int .i64 0, .int .i64 0, .int .i64 0, .int .i64 0, .int .i64 0, .int .i64 0, .int .i64 0, .int .i64 0, .int .i64 0, .int .i64 0, .int .i64 0, .int .i64 0, .int .i64 0, .int .i64 0, .int .i64 0, .int .i64 0, .int .i64 0, .int .i64 0, .int .i64 0, .int .i64 0, .int .i64 0, .int .i64 0, .int .i64 0, .int .i64 0, .int .i64 0, .int .i64 0, .int .i64 0, .int .i64 0, .int .i64 0, .int .i64 0, .int .i64 0, .int .i64 0, .int .i64 0, .int .i64 0, .int .i64 0, .int .i64 0, .int .i64 0, .int .i64 0, .int .i64 0, .int .i64 0, .int .i64 0] 73 (unhide B2) rfl (by kernel_rfl) (by rw [← sq_z64]; exact sq_one _) ?_; intro w3 hB3 g3; rw [← sq_z64] at hB3)
  refine (zigZag w3).mono ?_
  rintro e w4 ⟨rfl, g4⟩
  have s3 := g3.size
  have s4 := g4.size
  have hB4 := (g4.block (w.heap.size + 2) (by omega) (by simp)).trans hB3
  have hR4 := (g4.block (w.heap.size + 1) (by omega) (by simp)).trans ((g3.block (w.heap.size + 1) (by omega) (by simp)).trans (unhide B1))
  have hS4 := (g4.block w.heap.size (by omega) (by simp)).trans ((g3.block w.heap.size (by omega) (by simp)).trans (unhide B0))
  have G4 : w.grownBy w4 none := grown_trans (grown_new (unhide HG0) g3 (fun g e => by simp at e; omega)) g4
  have HB4 := hide hB4
  have HR4 := hide hR4
  have HS4 := hide hS4
  have HG4 := hide G4
  clear hB4 hR4 hS4 G4 hB3 g3 g4
  go_wp2
  go_loopw [8] (fun i wr => ∃ k : Nat, k ≤ 64 ∧ i = .int .i64 k ∧ wr.heap[w.heap.size + 2]? = some (.cells (sq (mix (fun k => zs.getD (zz k) 0) zs64 k)) 73 (0, 0)) ∧ w4.grownBy wr (some (w.heap.size + 2))) (fun i _ => 64 - (intOf i).toNat)
  case atStart => exact ⟨0, Nat.zero_le _, rfl, by rw [mix_zero]; exact unhide HB4, World.grownBy.refl _ _⟩
  case round =>
    obtain ⟨k, hk, rfl, hM, hgk⟩ := hrel
    by_cases hlt : k < 64
    · obtain ⟨p, hp⟩ : ∃ p, zz k = p := ⟨_, rfl⟩
      have hp64 : p < 64 := by rw [← hp]; exact zz_lt k hlt
      have hat : ∀ w, (Instr.index 73 (.agg (sq zzL)) (.int .i64 (k : Int))).run Try.prog w = .ok (.int .i64 (p : Int)) w := fun w => by
        rw [idx zz_len (k : Int) (by omega) (by omega) w, Int.toNat_natCast]
        have e : zzL.getD k 0 = (p : Int) := by rw [← hp]; exact zzF_eq k
        rw [e]
      have hS := (hgk.block w.heap.size (by omega) (by simp)).trans (unhide HS4)
      have cS := sq_cell hS p (by rw [unhide HZ]; omega)
      have cM := sq_cell hM k (by rw [mix_len _ _ _ (by rw [zs64_len]; omega), zs64_len]; omega)
      have fM := sq_frozen hM k
      have HSET : Hid ((wr.setCell ⟨w.heap.size + 2, k, none⟩ (.int .i64 (zs.getD p 0))).heap[w.heap.size + 2]? = some (.cells (sq (mix (fun k => zs.getD (zz k) 0) zs64 (k + 1))) 73 (0, 0)) ∧ w4.grownBy (wr.setCell ⟨w.heap.size + 2, k, none⟩ (.int .i64 (zs.getD p 0))) (some (w.heap.size + 2))) := by
        refine ⟨?_, grown_trans hgk (grown_set wr _ _ _)⟩
        rw [heap_setCell_same wr (w.heap.size + 2) _ _ _ _ hM]
        rw [← hp, mix_set (fun k => zs.getD (zz k) 0) zs64 k (by rw [zs64_len]; omega)]
      clear hM hS hgk hp
      generalize zs.getD p 0 = z at cS HSET
      go_wp2
      go_roundw
      case rel => exact ⟨k + 1, by omega, by go_num, (unhide HSET).1, (unhide HSET).2⟩
      case measure => simp [intOf]; omega
    · obtain rfl : k = 64 := by omega
      rw [mix_all _ zs64 zs64_len] at hM
      have hbr := (hgk.block (w.heap.size + 1) (by omega) (by simp)).trans (unhide HR4)
      have HM := hide hM
      have HBR := hide hbr
      have HMS : Hid ((sq (zigged zs)).size = 64) := by unfold Hid; rw [sq_size, zigged, made_len]
      have HGF : Hid (w.grownBy wr none) := grown_new (unhide HG4) hgk (fun g e => by simp at e; omega)
      clear hM hbr hgk
      change Hid (wr.heap[w.heap.size + 2]? = some (.cells (sq (zigged zs)) 73 (0, 0))) at HM
      go_wp2_with (first | (refine load_row rfl 73 _ rfl (w.heap.size + 2) rfl (sq (zigged zs)) 73 (unhide HM) _ Try.underlying73 rfl (by rw [unhide HMS]; kernel_rfl) ?_) | (refine store_row rfl 73 _ _ rfl (w.heap.size + 1) rfl (sq (zigged zs)) rfl (sq zs64) 73 (unhide HBR) (by rw [unhide HMS, sq_size, zs64_len]) (by rw [unhide HMS]; kernel_rfl) (sq_one _) ?_; intro w6 hB6 g6))
      refine bodyPost_ret (v := .agg (sq (zigged zs))) ?_ rfl ⟨rfl, ?_⟩
      · rw [results_c1 rfl]
        exact run_loadVar_row w6 _ 73 73 _ (0, 0) _ hB6 Try.underlying73 rfl (by rw [unhide HMS]; kernel_rfl)
      · exact grown_new (unhide HGF) g6 (fun g e => by simp at e; omega)

set_option maxRecDepth 20000 in
set_option maxHeartbeats 1600000 in
theorem fromZig (zs : List Int) (hz : zs.length = 64) (w : World) :
    Calls Try.prog 66 #[.agg (sq zs)] w fun e w' => e = .returned (.agg (sq (unzigged zs))) ∧ w.grownBy w' none := by
  obtain ⟨W0, hW0⟩ : ∃ W0, ((w.alloc (.cells (sq zs) 73)).alloc (.cells #[.int .i64 0, .int .i64 0, .int .i64 0, .int .i64 0, .int .i64 0, .int .i64 0, .int .i64 0, .int .i64 0, .int .i64 0, .int .i64 0, .int .i64 0, .int .i64 0, .int .i64 0, .int .i64 0, .int .i64 0, .int .i64 0, .int .i64 0, .int .i64 0, .int .i64 0, .int .i64 0, .int .i64 0, .int .i64 0, .int .i64 0, .int .i64 0, .int .i64 0, .int .i64 0, .int .i64 0, .int .i64 0, .int .i64 0, .int .i64 0, .int .i64 0, .int .i64 0, .int .i64 0, .int .i64 0, .int .i64 0, .int .i64 0, .int .i64 0, .int .i64 0, .int .i64 0, .int .i64 0, .int .i64 0, .int .i64 0, .int .i64 0, .int .i64 0, .int .i64 0, .int .i64 0, .int .i64 0, .int .i64 0, .int .i64 0, .int .i64 0, .int .i64 0, .int .i64 0, .int .i64 0, .int .i64 0, .int .i64 0, .int .i64 0, .int .i64 0, .int .i64 0, .int .i64 0, .int .i64 0, .int .i64 0, .int .i64 0, .int .i64 0, .int .i64 0] 73)).alloc (.cells #[.int .i64 0, .int .i64 0, .int .i64 0, .int .i64 0, .int .i64 0, .int .i64 0, .int .i64 0, .int .i64 0, .int .i64 0, .int .i64 0, .int .i64 0, .int .i64 0, .int .i64 0, .int .i64 0, .int .i64 0, .int .i64 0, .int .i64 0, .int .i64 0, .int .i64 0, .int .i64 0, .int .i64 0, .int .i64 0, .int .i64 0, .int .i64 0, .int .i64 0, .int .i64 0, .int .i64 0, .int .i64 0, .int .i64 0, .int .i64 0, .int .i64 0, .int .i64 0, .int .i64 0, .int .i64 0, .int .i64 0, .int .i64 0, .int .i64 0, .int .i64 0, .int .i64 0, .int .i64 0, .int .i64 0, .int .i64 0, .int .i64 0, .int .i64 0, .int .i64 0, .int .i64 0, .int .i64 0, .int .i64 0, .int .i64 0, .int .i64 0, .int .i64 0, .int .i64 0, .int .i64 0, .int .i64 0, .int .i64 0, .int .i64 0, .int .i64 0, .int .i64 0, .int .i64 0, .int .i64 0, .int .i64 0, .int .i64 0, .int .i64 0, .int .i64 0] 73) = W0 := ⟨_, rfl⟩
  have G0 : w.grownBy W0 none := by rw [← hW0]; exact grown_alloc (grown_alloc (World.grownBy_alloc _ _ _) _) _
  have b0 : W0.heap[w.heap.size]? = some (.cells (sq zs) 73 (0, 0)) := by rw [← hW0, Below.heap_alloc _ _ _ (by simp; omega), Below.heap_alloc _ _ _ (by simp)]; exact heap_alloc_new w _
  have b1 : W0.heap[w.heap.size + 1]? = some (.cells (sq zs64) 73 (0, 0)) := by
    rw [← hW0, Below.heap_alloc _ _ _ (by simp), sq_z64]
    have := heap_alloc_new (w.alloc (.cells (sq zs) 73)) (.cells #[.int .i64 0, .int .i64 0, .int .i64 0, .int .i64 0, .int .i64 0, .int .i64 0, .int .i64 0, .int .i64 0, .int .i64 0, .int .i64 0, .int .i64 0, .int .i64 0, .int .i64 0, .int .i64 0, .int .i64 0, .int .i64 0, .int .i64 0, .int .i64 0, .int .i64 0, .int .i64 0, .int .i64 0, .int .i64 0, .int .i64 0, .int .i64 0, .int .i64 0, .int .i64 0, .int .i64 0, .int .i64 0, .int .i64 0, .int .i64 0, .int .i64 0, .int .i64 0, .int .i64 0, .int .i64 0, .int .i64 0, .int .i64 0, .int .i64 0, .int .i64 0, .int .i64 0, .int .i64 0, .int .i64 0, .int .i64 0, .int .i64 0, .int .i64 0, .int .i64 0, .int .i64 0, .int .i64 0, .int .i64 0, .int .i64 0, .int .i64 0, .int .i64 0, .int .i64 0, .int .i64 0, .int .i64 0, .int .i64 0, .int .i64 0, .int .i64 0, .int .i64 0, .int .i64 0, .int .i64 0, .int .i64 0, .int .i64 0, .int .i64 0, .int .i64 0] 73)
    simpa using this
  have b2 : W0.heap[w.heap.size + 2]? = some (.cells #[.int .i64 0, .int .i64 0, .int .i64 0, .int .i64 0, .int .i64 0, .int .i64 0, .int .i64 0, .int .i64 0, .int .i64 0, .int .i64 0, .int .i64 0, .int .i64 0, .int .i64 0, .int .i64 0, .int .i64 0, .int .i64 0, .int .i64 0, .int .i64 0, .int .i64 0, .int .i64 0, .int .i64 0, .int .i64 0, .int .i64 0, .int .i64 0, .int .i64 0, .int .i64 0, .int .i64 0, .int .i64 0, .int .i64 0, .int .i64 0, .int .i64 0, .int .i64 0, .int .i64 0, .int .i64 0, .int .i64 0, .int .i64 0, .int .i64 0, .int .i64 0, .int .i64 0, .int .i64 0, .int .i64 0, .int .i64 0, .int .i64 0, .int .i64 0, .int .i64 0, .int .i64 0, .int .i64 0, .int .i64 0, .int .i64 0, .int .i64 0, .int .i64 0, .int .i64 0, .int .i64 0, .int .i64 0, .int .i64 0, .int .i64 0, .int .i64 0, .int .i64 0, .int .i64 0, .int .i64 0, .int .i64 0, .int .i64 0, .int .i64 0, .int .i64 0] 73 (0, 0)) := by
    rw [← hW0]
    have := heap_alloc_new ((w.alloc (.cells (sq zs) 73)).alloc (.cells #[.int .i64 0, .int .i64 0, .int .i64 0, .int .i64 0, .int .i64 0, .int .i64 0, .int .i64 0, .int .i64 0, .int .i64 0, .int .i64 0, .int .i64 0, .int .i64 0, .int .i64 0, .int .i64 0, .int .i64 0, .int .i64 0, .int .i64 0, .int .i64 0, .int .i64 0, .int .i64 0, .int .i64 0, .int .i64 0, .int .i64 0, .int .i64 0, .int .i64 0, .int .i64 0, .int .i64 0, .int .i64 0, .int .i64 0, .int .i64 0, .int .i64 0, .int .i64 0, .int .i64 0, .int .i64 0, .int .i64 0, .int .i64 0, .int .i64 0, .int .i64 0, .int .i64 0, .int .i64 0, .int .i64 0, .int .i64 0, .int .i64 0, .int .i64 0, .int .i64 0, .int .i64 0, .int .i64 0, .int .i64 0, .int .i64 0, .int .i64 0, .int .i64 0, .int .i64 0, .int .i64 0, .int .i64 0, .int .i64 0, .int .i64 0, .int .i64 0, .int .i64 0, .int .i64 0, .int .i64 0, .int .i64 0, .int .i64 0, .int .i64 0, .int .i64 0] 73)) (.cells #[.int .i64 0, .int .i64 0, .int .i64 0, .int .i64 0, .int .i64 0, .int .i64 0, .int .i64 0, .int .i64 0, .int .i64 0, .int .i64 0, .int .i64 0, .int .i64 0, .int .i64 0, .int .i64 0, .int .i64 0, .int .i64 0, .int .i64 0, .int .i64 0, .int .i64 0, .int .i64 0, .int .i64 0, .int .i64 0, .int .i64 0, .int .i64 0, .int .i64 0, .int .i64 0, .int .i64 0, .int .i64 0, .int .i64 0, .int .i64 0, .int .i64 0, .int .i64 0, .int .i64 0, .int .i64 0, .int .i64 0, .int .i64 0, .int .i64 0, .int .i64 0, .int .i64 0, .int .i64 0, .int .i64 0, .int .i64 0, .int .i64 0, .int .i64 0, .int .i64 0, .int .i64 0, .int .i64 0, .int .i64 0, .int .i64 0, .int .i64 0, .int .i64 0, .int .i64 0, .int .i64 0, .int .i64 0, .int .i64 0, .int .i64 0, .int .i64 0, .int .i64 0, .int .i64 0, .int .i64 0, .int .i64 0, .int .i64 0, .int .i64 0, .int .i64 0] 73)
    simpa using this
  have s0 : W0.heap.size = w.heap.size + 3 := by rw [← hW0]; simp
  have HW := hide hW0
  have B0 := hide b0
  have B1 := hide b1
  have B2 := hide b2
  have HG0 := hide G0
  have HZ := hide hz
  clear hW0 b0 b1 b2 G0 hz
  go_enter Try.func66, Try.ntmps66
  go_wp2_with (rw [unhide HW]; clear HW; refine store_row rfl 73 _ _ rfl (w.heap.size + 2) rfl #[.int .i64 0, .int .i64 0, .int .i64 0, .int .i64 0, .int .i64 0, .int .i64 0, .int .i64 0, .int .i64 0, .int .i64 0, .int .i64 0, .int .i64 0, .int .i64 0, .int .i64 0, .int .i64 0, .int .i64 0, .int .i64 0, .int .i64 0, .int .i64 0, .int .i64 0, .int .i64 0, .int .i64 0, .int .i64 0, .int .i64 0, .int .i64 0, .int .i64 0, .int .i64 0, .int .i64 0, .int .i64 0, .int .i64 0, .int .i64 0, .int .i64 0, .int .i64 0, .int .i64 0, .int .i64 0, .int .i64 0, .int .i64 0, .int .i64 0, .int .i64 0, .int .i64 0, .int .i64 0, .int .i64 0, .int .i64 0, .int .i64 0, .int .i64 0, .int .i64 0, .int .i64 0, .int .i64 0, .int .i64 0, .int .i64 0, .int .i64 0, .int .i64 0, .int .i64 0, .int .i64 0, .int .i64 0, .int .i64 0, .int .i64 0, .int .i64 0, .int .i64 0, .int .i64 0, .int .i64 0, .int .i64 0, .int .i64 0, .int .i64 0, .int .i64 0] rfl #[.int .i64 0, .int .i64 0, .int .i64 0, .int .i64 0, .int .i64 0, .int .i64 0, .int .i64 0, .int .i64 0, .int .i64 0, .int .i64 0, .int .i64 0, .int .i64 0, .int .i64 0, .int .i64 0, .int .i64 0, .int .i64 0, .int .i64 0, .int .i64 0, .int .i64 0, .int .i64 0, .int .i64 0, .int .i64 0, .int .i64 0, .int .i64 0, .int .i64 0, .int .i64 0, .int .i64 0, .int .i64 0, .int .i64 0, .int .i64 0, .int .i64 0, .int .i64 0, .int .i64 0, .int .i64 0, .int .i64 0, .int .i64 0, .int .i64 0, .int .i64 0, .int .i64 0, .int .i64 0, .int .i64 0, .int .i64 0, .int .i64 0, .int .i64 0, .int .i64 0, .int .i64 0, .int .i64 0, .int .i64 0, .int .i64 0, .int .i64 0, .int .i64 0, .int .i64 0, .int .i64 0, .int .i64 0, .int .i64 0, .int .i64 0, .int .i64 0, .int .i64 0, .int .i64 0, .int .i64 0, .int .i64 0, .int .i64 0, .int .i64 0, .int .i64 0] 73 (unhide B2) rfl (by kernel_rfl) (by rw [← sq_z64]; exact sq_one _) ?_; intro w3 hB3 g3; rw [← sq_z64] at hB3)
  refine (zigZag w3).mono ?_
  rintro e w4 ⟨rfl, g4⟩
  have s3 := g3.size
  have s4 := g4.size
  have hB4 := (g4.block (w.heap.size + 2) (by omega) (by simp)).trans hB3
  have hR4 := (g4.block (w.heap.size + 1) (by omega) (by simp)).trans ((g3.block (w.heap.size + 1) (by omega) (by simp)).trans (unhide B1))
  have hS4 := (g4.block w.heap.size (by omega) (by simp)).trans ((g3.block w.heap.size (by omega) (by simp)).trans (unhide B0))
  have G4 : w.grownBy w4 none := grown_trans (grown_new (unhide HG0) g3 (fun g e => by simp at e; omega)) g4
  have HB4 := hide hB4
  have HR4 := hide hR4
  have HS4 := hide hS4
  have HG4 := hide G4
  clear hB4 hR4 hS4 G4 hB3 g3 g4
  go_wp2
  go_loopw [8] (fun i wr => ∃ k : Nat, k ≤ 64 ∧ i = .int .i64 k ∧ wr.heap[w.heap.size + 2]? = some (.cells (sq (unzTo zs k)) 73 (0, 0)) ∧ w4.grownBy wr (some (w.heap.size + 2))) (fun i _ => 64 - (intOf i).toNat)
  case atStart => exact ⟨0, Nat.zero_le _, rfl, by rw [unz_zero]; exact unhide HB4, World.grownBy.refl _ _⟩
  case round =>
    obtain ⟨k, hk, rfl, hM, hgk⟩ := hrel
    by_cases hlt : k < 64
    · obtain ⟨p, hp⟩ : ∃ p, zz k = p := ⟨_, rfl⟩
      have hp64 : p < 64 := by rw [← hp]; exact zz_lt k hlt
      have hat : ∀ w, (Instr.index 73 (.agg (sq zzL)) (.int .i64 (k : Int))).run Try.prog w = .ok (.int .i64 (p : Int)) w := fun w => by
        rw [idx zz_len (k : Int) (by omega) (by omega) w, Int.toNat_natCast]
        have e : zzL.getD k 0 = (p : Int) := by rw [← hp]; exact zzF_eq k
        rw [e]
      have hS := (hgk.block w.heap.size (by omega) (by simp)).trans (unhide HS4)
      have cS := sq_cell hS k (by rw [unhide HZ]; omega)
      have cM := sq_cell hM p (by rw [unzTo, made_len]; omega)
      have fM := sq_frozen hM p
      have HSET : Hid ((wr.setCell ⟨w.heap.size + 2, p, none⟩ (.int .i64 (zs.getD k 0))).heap[w.heap.size + 2]? = some (.cells (sq (unzTo zs (k + 1))) 73 (0, 0)) ∧ w4.grownBy (wr.setCell ⟨w.heap.size + 2, p, none⟩ (.int .i64 (zs.getD k 0))) (some (w.heap.size + 2))) := by
        refine ⟨?_, grown_trans hgk (grown_set wr _ _ _)⟩
        rw [heap_setCell_same wr (w.heap.size + 2) _ _ _ _ hM]
        rw [← hp, unz_set zs k hlt]
      clear hM hS hgk hp
      generalize zs.getD k 0 = z at cS HSET
      go_wp2
      go_roundw
      case rel => exact ⟨k + 1, by omega, by go_num, (unhide HSET).1, (unhide HSET).2⟩
      case measure => simp [intOf]; omega
    · obtain rfl : k = 64 := by omega
      rw [unz_all] at hM
      have hbr := (hgk.block (w.heap.size + 1) (by omega) (by simp)).trans (unhide HR4)
      have HM := hide hM
      have HBR := hide hbr
      have HMS : Hid ((sq (unzigged zs)).size = 64) := by unfold Hid; rw [sq_size, unzigged, made_len]
      have HGF : Hid (w.grownBy wr none) := grown_new (unhide HG4) hgk (fun g e => by simp at e; omega)
      clear hM hbr hgk
      skip
      go_wp2_with (first | (refine load_row rfl 73 _ rfl (w.heap.size + 2) rfl (sq (unzigged zs)) 73 (unhide HM) _ Try.underlying73 rfl (by rw [unhide HMS]; kernel_rfl) ?_) | (refine store_row rfl 73 _ _ rfl (w.heap.size + 1) rfl (sq (unzigged zs)) rfl (sq zs64) 73 (unhide HBR) (by rw [unhide HMS, sq_size, zs64_len]) (by rw [unhide HMS]; kernel_rfl) (sq_one _) ?_; intro w6 hB6 g6))
      refine bodyPost_ret (v := .agg (sq (unzigged zs))) ?_ rfl ⟨rfl, ?_⟩
      · rw [results_c1 rfl]
        exact run_loadVar_row w6 _ 73 73 _ (0, 0) _ hB6 Try.underlying73 rfl (by rw [unhide HMS]; kernel_rfl)
      · exact grown_new (unhide HGF) g6 (fun g e => by simp at e; omega)

end Go.Proofs.Ytfgglainjaplgaa

namespace Go.Proofs.Ytfgglainjaplgaa

def absI (n : Int) : Int := if n < 0 then -n else n
/-- n by 2^lo, cut. -/
def cutI (n : Int) (lo : Nat) : Int := if n < 0 then -(-n / 2 ^ lo) else n / 2 ^ lo
def bitI (n : Int) (hi lo : Nat) : Int := if n < 0 ∧ cutI n hi = 0 then -(absI n / 2 ^ lo % 2) else absI n / 2 ^ lo % 2
def firstL (z : List Int) (fr m lo : Nat) : List Int := (List.range m).map fun j => cutI (z.getD (fr + j) 0) lo
def refineL (z : List Int) (fr m hi lo : Nat) : List Int := (List.range m).map fun j => bitI (z.getD (fr + j) 0) hi lo
def inLev (n : Int) : Bool := decide (-16383 ≤ n ∧ n ≤ 16383)
/-- One number put. -/
def stepF (lo k : Nat) (n : Int) (z : List Int) : Option (List Int) := if inLev n && inLev (n * 2 ^ lo) then some (z.set k (n * 2 ^ lo)) else none
def finer (lo : Nat) (n y : Int) : Int := y + (if y < 0 then -n else n) * 2 ^ lo
def stepR (lo k : Nat) (n : Int) (z : List Int) : Option (List Int) :=
  if decide (-1 ≤ n ∧ n ≤ 1) && !(decide (n < 0) && decide (z.getD k 0 ≠ 0)) && inLev (finer lo n (z.getD k 0)) then some (z.set k (finer lo n (z.getD k 0))) else none
/-- The first j numbers of a list put, from place k on. -/
def putT (step : Nat → Int → List Int → Option (List Int)) (k : Nat) (list : List Int) (z : List Int) : Nat → Option (List Int)
  | 0 => some z
  | j + 1 => match putT step k list z j with
    | some y => step (k + j) (list.getD j 0) y
    | none => none
theorem putT_none {step : Nat → Int → List Int → Option (List Int)} {k : Nat} {list z : List Int} {j : Nat} (h : putT step k list z j = none) : ∀ m, j ≤ m → putT step k list z m = none := by
  intro m hm
  induction m with
  | zero => obtain rfl : j = 0 := by omega
            exact h
  | succ m ih =>
    by_cases e : j = m + 1
    · rw [← e]; exact h
    · show (match putT step k list z m with | some y => step (k + m) (list.getD m 0) y | none => none) = none
      rw [ih (by omega)]
theorem putT_next {step : Nat → Int → List Int → Option (List Int)} {k : Nat} {list z y : List Int} {j : Nat} (h : putT step k list z j = some y) : putT step k list z (j + 1) = step (k + j) (list.getD j 0) y := by
  show (match putT step k list z j with | some y => step (k + j) (list.getD j 0) y | none => none) = _
  rw [h]

/-- The four answers. -/
def placesOf (a : Scn) : Nat := (a.to - a.fr + 1).toNat
def firstG (b : List Int) (a : Scn) : List Int := if levB (-16383) 16383 b && passB a && decide (a.hi = 0) then firstL (zigged b) a.fr.toNat (placesOf a) a.lo.toNat else []
def refineG (b : List Int) (a : Scn) : List Int := if levB (-16383) 16383 b && passB a && !decide (a.hi = 0) then refineL (zigged b) a.fr.toNat (placesOf a) a.hi.toNat a.lo.toNat else []
def ofO (o : Option (List Int)) : List Int := match o with | some z => unzigged z | none => []
def putFirstG (b : List Int) (a : Scn) (l : List Int) : List Int := if levB (-16383) 16383 b && passB a && decide (a.hi = 0) && decide ((l.length : Int) = a.to - a.fr + 1) then ofO (putT (stepF a.lo.toNat) a.fr.toNat l (zigged b) (placesOf a)) else []
def putRefineG (b : List Int) (a : Scn) (l : List Int) : List Int := if levB (-16383) 16383 b && passB a && !decide (a.hi = 0) && decide ((l.length : Int) = a.to - a.fr + 1) then ofO (putT (stepR a.lo.toNat) a.fr.toNat l (zigged b) (placesOf a)) else []

/-- n to the bits from l on; nothing of it, where none was told. -/
def truncI (n : Int) (l : Int) : Int := if l < 0 then 0 else cutI n l.toNat * 2 ^ l.toNat
theorem pow2_pos (l : Nat) : (0 : Int) < 2 ^ l := Int.pow_pos (by decide)
theorem half_step (a : Int) (l : Nat) : a / 2 ^ l = 2 * (a / 2 ^ (l + 1)) + a / 2 ^ l % 2 := by
  have h : a / 2 ^ (l + 1) = a / 2 ^ l / 2 := by rw [Int.pow_succ, ← Int.ediv_ediv_of_nonneg (Int.le_of_lt (pow2_pos l))]
  rw [h]
  omega
theorem trunc_nat (n : Int) (l : Nat) : truncI n (l : Int) = cutI n l * 2 ^ l := by
  unfold truncI
  rw [if_neg (by omega), Int.toNat_natCast]
theorem trunc_bound (n : Int) (l : Int) (h : -16383 ≤ n ∧ n ≤ 16383) : -16383 ≤ truncI n l ∧ truncI n l ≤ 16383 := by
  unfold truncI
  split
  · omega
  · have hp := pow2_pos l.toNat
    have key : ∀ a : Int, 0 ≤ a → 0 ≤ a / 2 ^ l.toNat * 2 ^ l.toNat ∧ a / 2 ^ l.toNat * 2 ^ l.toNat ≤ a := fun a ha => by
      have h1 := Int.emod_add_mul_ediv a (2 ^ l.toNat)
      have h2 := Int.emod_nonneg a (Int.ne_of_gt hp)
      have h3 : 0 ≤ a / 2 ^ l.toNat := Int.ediv_nonneg ha (Int.le_of_lt hp)
      have h4 := Int.mul_nonneg h3 (Int.le_of_lt hp)
      rw [Int.mul_comm] at h1
      omega
    unfold cutI
    split
    · have := key (-n) (by omega)
      rw [Int.neg_mul]
      omega
    · have := key n (by omega)
      omega

/-- A refining pass makes it finer by one bit. -/
theorem refine_step (n : Int) (l : Nat) : finer l (bitI n (l + 1) l) (truncI n ((l + 1 : Nat) : Int)) = truncI n (l : Int) := by
  have hp := pow2_pos l
  have hq := pow2_pos (l + 1)
  have h2 : (2 : Int) ^ (l + 1) = 2 ^ l * 2 := Int.pow_succ _ _
  rw [trunc_nat, trunc_nat]
  unfold finer
  by_cases hn : n < 0
  · have hh := half_step (-n) l
    have h0 : 0 ≤ -n / 2 ^ (l + 1) := Int.ediv_nonneg (by omega) (Int.le_of_lt hq)
    unfold bitI cutI absI
    simp only [hn, if_true, true_and]
    generalize -n / 2 ^ (l + 1) = q at *
    generalize -n / 2 ^ l % 2 = r at *
    rw [hh]
    by_cases hq0 : q = 0
    · subst hq0
      simp
    · have e1 : ¬ (-q = 0) := by omega
      have e2 : -q * 2 ^ (l + 1) < 0 := Int.mul_neg_of_neg_of_pos (by omega) hq
      rw [if_neg e1, if_pos e2, h2]
      have : (-(2 * q + r)) * 2 ^ l = -q * (2 ^ l * 2) + -r * 2 ^ l := by
        rw [Int.neg_add, Int.add_mul]
        congr 1
        rw [← Int.mul_assoc, Int.mul_comm (-q * 2 ^ l) 2, ← Int.mul_assoc]
        congr 1
        rw [Int.mul_neg]
      exact this.symm
  · have hh := half_step n l
    have h0 : 0 ≤ n / 2 ^ (l + 1) := Int.ediv_nonneg (by omega) (Int.le_of_lt hq)
    unfold bitI cutI absI
    simp only [hn, if_false, false_and]
    generalize n / 2 ^ (l + 1) = q at *
    generalize n / 2 ^ l % 2 = r at *
    rw [hh]
    have e2 : ¬ (q * 2 ^ (l + 1) < 0) := by have := Int.mul_nonneg h0 (Int.le_of_lt hq); omega
    rw [if_neg e2, h2, Int.add_mul]
    congr 1
    rw [← Int.mul_assoc, Int.mul_comm (q * 2 ^ l) 2, ← Int.mul_assoc]
/-- .. and may be put. -/
theorem refine_ok (n : Int) (l : Nat) (hn : -16383 ≤ n ∧ n ≤ 16383) : (decide (-1 ≤ bitI n (l + 1) l ∧ bitI n (l + 1) l ≤ 1) && !(decide (bitI n (l + 1) l < 0) && decide (truncI n ((l + 1 : Nat) : Int) ≠ 0)) && inLev (finer l (bitI n (l + 1) l) (truncI n ((l + 1 : Nat) : Int)))) = true := by
  have hb := trunc_bound n (l : Int) hn
  have hm : 0 ≤ absI n / 2 ^ l % 2 ∧ absI n / 2 ^ l % 2 ≤ 1 := by omega
  rw [refine_step]
  have h1 : -1 ≤ bitI n (l + 1) l ∧ bitI n (l + 1) l ≤ 1 := by unfold bitI; split <;> omega
  have h2 : ¬ (bitI n (l + 1) l < 0 ∧ truncI n ((l + 1 : Nat) : Int) ≠ 0) := by
    rintro ⟨h3, h4⟩
    unfold bitI at h3
    split at h3
    · rename_i h5
      refine h4 ?_
      rw [trunc_nat, h5.2, Int.zero_mul]
    · omega
  have e2 : (decide (bitI n (l + 1) l < 0) && decide (truncI n ((l + 1 : Nat) : Int) ≠ 0)) = false := by
    rw [Bool.eq_false_iff]
    intro h
    rw [Bool.and_eq_true, decide_eq_true_eq, decide_eq_true_eq] at h
    exact h2 h
  rw [e2, decide_eq_true h1]
  unfold inLev
  rw [decide_eq_true hb]
  rfl
/-- A first pass tells it to its bit, and may be put. -/
theorem first_step (n : Int) (l : Nat) (hn : -16383 ≤ n ∧ n ≤ 16383) : cutI n l * 2 ^ l = truncI n (l : Int) ∧ (inLev (cutI n l) && inLev (cutI n l * 2 ^ l)) = true := by
  have e : cutI n l * 2 ^ l = truncI n (l : Int) := (trunc_nat n l).symm
  have hb := trunc_bound n (l : Int) hn
  refine ⟨e, ?_⟩
  have hp := pow2_pos l
  have hc : -16383 ≤ cutI n l ∧ cutI n l ≤ 16383 := by
    have key : ∀ a : Int, 0 ≤ a → 0 ≤ a / 2 ^ l ∧ a / 2 ^ l ≤ a := fun a ha => ⟨Int.ediv_nonneg ha (Int.le_of_lt hp), Int.ediv_le_self _ ha⟩
    unfold cutI
    split
    · have := key (-n) (by omega); omega
    · have := key n (by omega); omega
  rw [e]
  unfold inLev
  rw [decide_eq_true hb, decide_eq_true hc]
  rfl

end Go.Proofs.Ytfgglainjaplgaa

namespace Go.Proofs.Ytfgglainjaplgaa

/-- A row of what was told last, from place k on m places: each has to be 'want', and becomes 'lo'. -/
def leftRow (want lo : Int) : Nat → Nat → List Int → Option (List Int)
  | _, 0, row => some row
  | k, m + 1, row => if row.getD k 0 = want then leftRow want lo (k + 1) m (row.set k lo) else none
/-- The rows of a scan's components, one behind the other. -/
def leftComps (want lo : Int) (k m : Nat) : List Int → List (List Int) → Option (List (List Int))
  | [], X => some X
  | c :: cs, X => match leftRow want lo k m (X.getD c.toNat []) with
    | some row => leftComps want lo k m cs (X.set c.toNat row)
    | none => none
def wantOf (a : Scn) : Int := if a.hi = 0 then -1 else a.hi
def leftScan (a : Scn) (X : List (List Int)) : Option (List (List Int)) := leftComps (wantOf a) a.lo a.fr.toNat (a.to - a.fr + 1).toNat a.cs X
/-- All scans of a script, each of which has to be one. -/
def leftAll (fb : Bool) (n : Nat) : List Scn → List (List Int) → Option (List (List Int))
  | [], X => some X
  | a :: s, X => if scanB fb n a then (match leftScan a X with | some Y => leftAll fb n s Y | none => none) else none
def nothing (n : Nat) : List (List Int) := List.replicate n (List.replicate 64 (-1))
def leftO (fb : Bool) (n : Nat) (s : List Scn) : Option (List (List Int)) := if fb && decide (s.length ≤ 40) then leftAll fb n s (nothing n) else none
def leftG (fb : Bool) (n : Nat) (s : List Scn) : List (List Int) := (leftO fb n s).getD []
def scriptB (fb : Bool) (n : Nat) (s : List Scn) : Bool := match leftO fb n s with | some X => X.all (fun row => row.all (fun x => x == 0)) | none => false

def allC (n : Nat) : List Int := (List.range n).map (fun i : Nat => (i : Int))
def eachC (n : Nat) (f : Int → List Scn) : List Scn := (allC n).flatMap f
/-- The three scripts. -/
def scriptG (fb : Bool) (n : Nat) (kind : Int) : List Scn :=
  if fb then
    (if kind = 0 then [⟨allC n, 0, 63, 0, 0⟩]
    else if kind = 1 then eachC n (fun i => [⟨[i], 0, 63, 0, 0⟩])
    else if kind = 2 then [⟨allC n, 0, 0, 0, 1⟩] ++ eachC n (fun i => [⟨[i], 1, 5, 0, 2⟩, ⟨[i], 6, 63, 0, 2⟩]) ++ eachC n (fun i => [⟨[i], 1, 63, 2, 1⟩]) ++ [⟨allC n, 0, 0, 1, 0⟩] ++ eachC n (fun i => [⟨[i], 1, 63, 1, 0⟩])
    else [])
  else []

theorem leftRow_len {want lo : Int} : ∀ (k m : Nat) (row row' : List Int), leftRow want lo k m row = some row' → row'.length = row.length
  | _, 0, row, row', h => by unfold leftRow at h; rw [Option.some.inj h]
  | k, m + 1, row, row', h => by
    unfold leftRow at h
    split at h
    · rw [leftRow_len (k + 1) m _ row' h, List.length_set]
    · exact absurd h (by simp)
theorem leftRow_at {want lo : Int} : ∀ (k m : Nat) (row row' : List Int), leftRow want lo k m row = some row' → k + m ≤ row.length → ∀ j, (j < k ∨ k + m ≤ j → row'.getD j 0 = row.getD j 0) ∧ (k ≤ j → j < k + m → row.getD j 0 = want ∧ row'.getD j 0 = lo)
  | k, 0, row, row', h, _, j => by
    unfold leftRow at h
    rw [Option.some.inj h]
    exact ⟨fun _ => rfl, fun h1 h2 => by omega⟩
  | k, m + 1, row, row', h, hl, j => by
    unfold leftRow at h
    split at h
    · rename_i hw
      obtain ⟨a1, a2⟩ := leftRow_at (k + 1) m _ row' h (by rw [List.length_set]; omega) j
      have hk : k < row.length := by omega
      refine ⟨fun hj => ?_, fun h1 h2 => ?_⟩
      · rw [a1 (by omega)]
        have : k ≠ j := by omega
        simp [this]
      · by_cases e : k = j
        · subst e
          refine ⟨hw, ?_⟩
          rw [a1 (by omega)]
          simp [hk]
        · obtain ⟨b1, b2⟩ := a2 (by omega) (by omega)
          refine ⟨?_, b2⟩
          rw [← b1]
          simp [e]
    · exact absurd h (by simp)

end Go.Proofs.Ytfgglainjaplgaa

namespace Go.Proofs.Ytfgglainjaplgaa

theorem zig_back {z : List Int} (hz : z.length = 64) : zigged (unzigged z) = z := by
  have hl : (zigged (unzigged z)).length = 64 := made_len _
  apply List.ext_getElem?
  intro k
  by_cases hk : k < 64
  · have e1 : (zigged (unzigged z)).getD k 0 = z.getD k 0 := by
      unfold zigged
      rw [made_at _ k hk]
      unfold unzigged
      rw [made_at _ _ (zz_lt k hk), zzI_zz k hk]
    rw [List.getElem?_eq_getElem (by omega), List.getElem?_eq_getElem (by omega)]
    simp only [List.getD_eq_getElem?_getD, List.getElem?_eq_getElem (show k < (zigged (unzigged z)).length by omega), List.getElem?_eq_getElem (show k < z.length by omega), Option.getD_some] at e1
    rw [e1]
  · rw [List.getElem?_eq_none (by omega), List.getElem?_eq_none (by omega)]
theorem lev_zig {lo hi : Int} {z : List Int} (h : levB lo hi z = true) : levB lo hi (zigged z) = true := by
  obtain ⟨_, h2⟩ := lev_at h
  refine lev_all (made_len _) (fun j hj => ?_)
  unfold zigged
  rw [made_at _ j hj]
  exact h2 _ (zz_lt j hj)
theorem lev_unzig {lo hi : Int} {z : List Int} (h : levB lo hi z = true) : levB lo hi (unzigged z) = true := by
  obtain ⟨_, h2⟩ := lev_at h
  refine lev_all (made_len _) (fun j hj => ?_)
  unfold unzigged
  rw [made_at _ j hj]
  exact h2 _ (zzI_lt j hj)

/-- Every number may be put where it stands: then all are. -/
theorem putT_all {step : Nat → Int → List Int → Option (List Int)} {k : Nat} {list z : List Int} {v : Nat → Int} : ∀ (m : Nat), k + m ≤ z.length →
    (∀ j, j < m → ∀ y : List Int, y.length = z.length → y.getD (k + j) 0 = z.getD (k + j) 0 → step (k + j) (list.getD j 0) y = some (y.set (k + j) (v (k + j)))) →
    ∃ z', putT step k list z m = some z' ∧ z'.length = z.length ∧ ∀ i, z'.getD i 0 = if k ≤ i ∧ i < k + m then v i else z.getD i 0
  | 0, _, _ => ⟨z, rfl, rfl, fun i => by rw [if_neg (by omega)]⟩
  | m + 1, hk, h => by
    obtain ⟨y, hy, hl, hat⟩ := putT_all m (by omega) (fun j hj => h j (by omega))
    have hs := h m (by omega) y hl (by rw [hat, if_neg (by omega)])
    refine ⟨y.set (k + m) (v (k + m)), by rw [putT_next hy, hs], by rw [List.length_set, hl], fun i => ?_⟩
    by_cases e : i = k + m
    · subst e
      rw [if_pos (by omega)]
      simp [show k + m < y.length by omega]
    · have e2 : (y.set (k + m) (v (k + m))).getD i 0 = y.getD i 0 := by simp [Ne.symm e]
      rw [e2, hat]
      by_cases h1 : k ≤ i ∧ i < k + m
      · rw [if_pos h1, if_pos (by omega)]
      · rw [if_neg h1, if_neg (by omega)]

/-- A block's numbers, in the order of waves, each to the bits that were told. -/
def truncL (y row : List Int) : List Int := made (fun k => truncI (y.getD k 0) (row.getD k 0))
theorem truncL_at (y row : List Int) (k : Nat) (hk : k < 64) : (truncL y row).getD k 0 = truncI (y.getD k 0) (row.getD k 0) := made_at _ k hk
theorem truncL_len (y row : List Int) : (truncL y row).length = 64 := made_len _
theorem ext64 {x y : List Int} (hx : x.length = 64) (hy : y.length = 64) (h : ∀ k, k < 64 → x.getD k 0 = y.getD k 0) : x = y := by
  apply List.ext_getElem?
  intro k
  by_cases hk : k < 64
  · have e := h k hk
    rw [List.getElem?_eq_getElem (by omega), List.getElem?_eq_getElem (by omega)]
    simp only [List.getD_eq_getElem?_getD, List.getElem?_eq_getElem (show k < x.length by omega), List.getElem?_eq_getElem (show k < y.length by omega), Option.getD_some] at e
    rw [e]
  · rw [List.getElem?_eq_none (by omega), List.getElem?_eq_none (by omega)]
theorem truncL_lev {b row : List Int} (hb : levB (-16383) 16383 b = true) : levB (-16383) 16383 (truncL (zigged b) row) = true := by
  obtain ⟨_, h2⟩ := lev_at (lev_zig hb)
  refine lev_all (truncL_len _ _) (fun j hj => ?_)
  rw [truncL_at _ _ j hj]
  exact trunc_bound _ _ (h2 j hj)
theorem firstL_at (z : List Int) (fr m lo j : Nat) (hj : j < m) : (firstL z fr m lo).getD j 0 = cutI (z.getD (fr + j) 0) lo := by simp [firstL, hj]
theorem refineL_at (z : List Int) (fr m hi lo j : Nat) (hj : j < m) : (refineL z fr m hi lo).getD j 0 = bitI (z.getD (fr + j) 0) hi lo := by simp [refineL, hj]

theorem pass_put {b row row' : List Int} {a : Scn} (hb : levB (-16383) 16383 b = true) (ha : passB a = true) (hrow : row.length = 64) (hl : leftRow (wantOf a) a.lo a.fr.toNat (placesOf a) row = some row') :
    (if a.hi = 0 then putFirstG (unzigged (truncL (zigged b) row)) a (firstG b a) else putRefineG (unzigged (truncL (zigged b) row)) a (refineG b a)) = unzigged (truncL (zigged b) row') := by
  have hp := ha
  unfold passB at hp
  simp only [Bool.and_eq_true, Bool.or_eq_true, decide_eq_true_eq] at hp
  obtain ⟨⟨⟨⟨f0, f1⟩, f2⟩, f3, f4⟩, f5⟩ := hp
  obtain ⟨fr, efr⟩ := Int.eq_ofNat_of_zero_le f0
  obtain ⟨lo, elo⟩ := Int.eq_ofNat_of_zero_le f3
  have em : placesOf a = (a.to - a.fr + 1).toNat := rfl
  obtain ⟨m, hm⟩ : ∃ m, placesOf a = m := ⟨_, rfl⟩
  have hmI : (m : Int) = a.to - a.fr + 1 := by omega
  have h64 : fr + m ≤ 64 := by omega
  rw [efr, elo, hm, Int.toNat_natCast] at hl
  obtain ⟨_, hlev⟩ := lev_at (lev_zig hb)
  have hat := leftRow_at fr m row row' hl (by omega)
  have hlz := truncL_lev (row := row) hb
  have hlu := lev_unzig hlz
  have hback := zig_back (truncL_len (zigged b) row)
  have hfin : ∀ z' : List Int, z'.length = 64 → (∀ i, z'.getD i 0 = if fr ≤ i ∧ i < fr + m then truncI ((zigged b).getD i 0) (lo : Int) else (truncL (zigged b) row).getD i 0) → z' = truncL (zigged b) row' := fun z' hz h => by
    refine ext64 hz (truncL_len _ _) (fun k hk => ?_)
    rw [h k, truncL_at (zigged b) row' k hk]
    by_cases hin : fr ≤ k ∧ k < fr + m
    · rw [if_pos hin, ((hat k).2 hin.1 hin.2).2]
    · rw [if_neg hin, truncL_at _ _ k hk, (hat k).1 (by omega)]
  by_cases h0 : a.hi = 0
  · rw [if_pos h0]
    have eF : firstG b a = firstL (zigged b) fr m lo := by
      unfold firstG
      rw [hb, ha, decide_eq_true h0, hm, efr, elo]
      rfl
    have eL : (firstG b a).length = m := by rw [eF]; simp [firstL]
    unfold putFirstG
    rw [hlu, ha, decide_eq_true h0, eL, decide_eq_true hmI, hback, eF, hm, efr, elo, Int.toNat_natCast, Int.toNat_natCast]
    obtain ⟨z', e1, e2, e3⟩ := putT_all (step := stepF lo) (k := fr) (list := firstL (zigged b) fr m lo) (z := truncL (zigged b) row) (v := fun i => truncI ((zigged b).getD i 0) (lo : Int)) m (by rw [truncL_len]; exact h64) (fun j hj y _ _ => by
      obtain ⟨s1, s2⟩ := first_step ((zigged b).getD (fr + j) 0) lo (hlev (fr + j) (by omega))
      rw [firstL_at _ _ _ _ j hj]
      unfold stepF
      rw [if_pos s2, s1])
    rw [truncL_len] at e2
    rw [e1]
    show unzigged z' = _
    rw [hfin z' e2 e3]
  · rw [if_neg h0]
    have hhi : a.hi = a.lo + 1 := by
      rcases f5 with h | h
      · exact absurd h h0
      · exact h
    have ehi : a.hi.toNat = lo + 1 := by omega
    have hwant : wantOf a = ((lo + 1 : Nat) : Int) := by
      unfold wantOf
      rw [if_neg h0]
      omega
    have eF : refineG b a = refineL (zigged b) fr m (lo + 1) lo := by
      unfold refineG
      rw [hb, ha, decide_eq_false h0, hm, efr, elo, ehi]
      rfl
    have eL : (refineG b a).length = m := by rw [eF]; simp [refineL]
    unfold putRefineG
    rw [hlu, ha, decide_eq_false h0, eL, decide_eq_true hmI, hback, eF, hm, efr, elo, Int.toNat_natCast, Int.toNat_natCast]
    obtain ⟨z', e1, e2, e3⟩ := putT_all (step := stepR lo) (k := fr) (list := refineL (zigged b) fr m (lo + 1) lo) (z := truncL (zigged b) row) (v := fun i => truncI ((zigged b).getD i 0) (lo : Int)) m (by rw [truncL_len]; exact h64) (fun j hj y _ hy => by
      have hk : fr + j < 64 := by omega
      have hw := ((hat (fr + j)).2 (by omega) (by omega)).1
      rw [hwant] at hw
      rw [truncL_at _ _ _ hk, hw] at hy
      have s1 := refine_step ((zigged b).getD (fr + j) 0) lo
      have s2 := refine_ok ((zigged b).getD (fr + j) 0) lo (hlev (fr + j) hk)
      rw [refineL_at _ _ _ _ _ j hj]
      unfold stepR
      rw [hy, if_pos s2, s1])
    rw [truncL_len] at e2
    rw [e1]
    show unzigged z' = _
    rw [hfin z' e2 e3]

end Go.Proofs.Ytfgglainjaplgaa

namespace Go.Proofs.Ytfgglainjaplgaa

/-- Rows of 64 numbers. -/
def Rows64 (n : Nat) (X : List (List Int)) : Prop := X.length = n ∧ ∀ c, c < n → (X.getD c []).length = 64
/-- A number of a row of rows. -/
def atL (X : List (List Int)) (c k : Nat) : Int := (X.getD c []).getD k 0
theorem nothing_rows (n : Nat) : Rows64 n (nothing n) := by
  refine ⟨by simp [nothing], fun c hc => ?_⟩
  have : (nothing n).getD c [] = List.replicate 64 (-1) := by simp [nothing, hc]
  rw [this, List.length_replicate]
theorem getD_set_same {α : Type} (X : List α) (c : Nat) (x d : α) (h : c < X.length) : (X.set c x).getD c d = x := by simp [h]
theorem getD_set_other {α : Type} (X : List α) (c j : Nat) (x d : α) (h : c ≠ j) : (X.set c x).getD j d = X.getD j d := by simp [h]
/-- Nothing that was told is told less of. -/
def Finer (X Y : List (List Int)) : Prop := ∀ c k, k < 64 → 0 ≤ atL X c k → 0 ≤ atL Y c k ∧ atL Y c k ≤ atL X c k
theorem Finer.refl (X : List (List Int)) : Finer X X := fun _ _ _ h => ⟨h, Int.le_refl _⟩
theorem Finer.trans {X Y Z : List (List Int)} (h : Finer X Y) (g : Finer Y Z) : Finer X Z := fun c k hk h0 => by
  obtain ⟨a, b⟩ := h c k hk h0
  obtain ⟨c1, d⟩ := g c k hk a
  exact ⟨c1, Int.le_trans d b⟩
theorem leftComps_step {want lo : Int} {k m : Nat} (hkm : k + m ≤ 64) (hwl : want = -1 ∨ lo ≤ want) (hlo : 0 ≤ lo) {n : Nat} : ∀ (cs : List Int) (X Y : List (List Int)), Rows64 n X → (∀ c ∈ cs, 0 ≤ c ∧ c < (n : Int)) → leftComps want lo k m cs X = some Y → Rows64 n Y ∧ Finer X Y
  | [], X, Y, hX, _, h => by
    unfold leftComps at h
    rw [← Option.some.inj h]
    exact ⟨hX, Finer.refl X⟩
  | c :: cs, X, Y, hX, hc, h => by
    unfold leftComps at h
    obtain ⟨h0, h1⟩ := hc c (by simp)
    have hcn : c.toNat < n := by omega
    have hcl : c.toNat < X.length := by rw [hX.1]; exact hcn
    cases hr : leftRow want lo k m (X.getD c.toNat []) with
    | none => rw [hr] at h; exact absurd h (by simp)
    | some row =>
      rw [hr] at h
      have hl := leftRow_len k m _ row hr
      rw [hX.2 _ hcn] at hl
      have hS : Rows64 n (X.set c.toNat row) := by
        refine ⟨by rw [List.length_set]; exact hX.1, fun j hj => ?_⟩
        by_cases e : c.toNat = j
        · rw [← e, getD_set_same _ _ _ _ hcl]; exact hl
        · rw [getD_set_other _ _ _ _ _ e]; exact hX.2 j hj
      have hF : Finer X (X.set c.toNat row) := fun j q hq hp => by
        unfold atL at hp ⊢
        by_cases e : c.toNat = j
        · subst e
          rw [getD_set_same _ _ _ _ hcl]
          obtain ⟨a1, a2⟩ := leftRow_at k m _ row hr (by rw [hX.2 _ hcn]; exact hkm) q
          by_cases hin : k ≤ q ∧ q < k + m
          · obtain ⟨b1, b2⟩ := a2 hin.1 hin.2
            rw [b2]
            rw [b1] at hp ⊢
            omega
          · rw [a1 (by omega)]
            exact ⟨hp, Int.le_refl _⟩
        · rw [getD_set_other _ _ _ _ _ e]
          exact ⟨hp, Int.le_refl _⟩
      obtain ⟨r1, r2⟩ := leftComps_step hkm hwl hlo cs _ Y hS (fun c' hc' => hc c' (by simp [hc'])) h
      exact ⟨r1, hF.trans r2⟩

theorem leftAll_app (fb : Bool) (n : Nat) : ∀ (s t : List Scn) (X : List (List Int)), leftAll fb n (s ++ t) X = (leftAll fb n s X).bind (leftAll fb n t)
  | [], t, X => rfl
  | a :: s, t, X => by
    simp only [List.cons_append, leftAll]
    split
    · cases leftScan a X with
      | none => rfl
      | some Y => exact leftAll_app fb n s t Y
    · rfl

theorem okComps_in {n : Nat} {cs : List Int} (h : okComps n cs = true) : ∀ c ∈ cs, 0 ≤ c ∧ c < (n : Int) := by
  intro c hc
  obtain ⟨i, hi, rfl⟩ := List.mem_iff_getElem.1 hc
  simp only [okComps, Bool.and_eq_true, decide_eq_true_eq] at h
  obtain ⟨⟨h0, h1⟩, _⟩ := compsTo_at h.1 i hi
  have e : cs.getD i 0 = cs[i] := by simp [hi]
  rw [e] at h0 h1
  omega
theorem passB_in {a : Scn} (h : passB a = true) : 0 ≤ a.fr ∧ a.fr ≤ a.to ∧ a.to ≤ 63 ∧ 0 ≤ a.lo ∧ (a.hi = 0 ∨ a.hi = a.lo + 1) := by
  simp only [passB, Bool.and_eq_true, Bool.or_eq_true, decide_eq_true_eq] at h
  omega
theorem leftScan_step {fb : Bool} {n : Nat} {a : Scn} (ha : scanB fb n a = true) {X Y : List (List Int)} (hX : Rows64 n X) (h : leftScan a X = some Y) : Rows64 n Y ∧ Finer X Y := by
  simp only [scanB, Bool.and_eq_true] at ha
  obtain ⟨⟨_, hc⟩, hp⟩ := ha
  obtain ⟨p1, p2, p3, p4, p5⟩ := passB_in hp
  unfold leftScan at h
  refine leftComps_step (k := a.fr.toNat) (m := (a.to - a.fr + 1).toNat) (by omega) ?_ p4 a.cs X Y hX (okComps_in hc) h
  unfold wantOf
  split
  · exact .inl rfl
  · right; omega
theorem leftAll_step {fb : Bool} {n : Nat} : ∀ (s : List Scn) (X Y : List (List Int)), Rows64 n X → leftAll fb n s X = some Y → Rows64 n Y ∧ Finer X Y
  | [], X, Y, hX, h => by
    unfold leftAll at h
    rw [← Option.some.inj h]
    exact ⟨hX, Finer.refl X⟩
  | a :: s, X, Y, hX, h => by
    unfold leftAll at h
    split at h
    · rename_i hb
      cases hs : leftScan a X with
      | none => rw [hs] at h; exact absurd h (by simp)
      | some Z =>
        rw [hs] at h
        obtain ⟨z1, z2⟩ := leftScan_step hb hX hs
        obtain ⟨r1, r2⟩ := leftAll_step s Z Y z1 h
        exact ⟨r1, z2.trans r2⟩
    · exact absurd h (by simp)
/-- What is left of a script that is one: rows of 64. -/
theorem leftO_rows {fb : Bool} {n : Nat} {s : List Scn} {X : List (List Int)} (h : leftO fb n s = some X) : Rows64 n X := by
  unfold leftO at h
  split at h
  · exact (leftAll_step s _ X (nothing_rows n) h).1
  · exact absurd h (by simp)
/-- What is left of a script's beginning: as many rows, and where something was told it is told no less behind it. -/
theorem left_half {fb : Bool} {n : Nat} {s : List Scn} {X : List (List Int)} (h : leftO fb n s = some X) (k : Nat) (hk : k ≤ s.length) : ∃ H, leftO fb n (s.take k) = some H ∧ Rows64 n H ∧ Rows64 n X ∧ Finer H X := by
  have h0 := h
  unfold leftO at h
  split at h
  · rename_i hb
    rw [Bool.and_eq_true, decide_eq_true_eq] at hb
    have e : s = s.take k ++ s.drop k := (List.take_append_drop k s).symm
    rw [e, leftAll_app] at h
    cases hs : leftAll fb n (s.take k) (nothing n) with
    | none => rw [hs] at h; exact absurd h (by simp)
    | some H =>
      rw [hs] at h
      have h2 : leftAll fb n (s.drop k) H = some X := h
      obtain ⟨r1, _⟩ := leftAll_step _ _ H (nothing_rows n) hs
      obtain ⟨r2, r3⟩ := leftAll_step _ _ X r1 h2
      refine ⟨H, ?_, r1, r2, r3⟩
      unfold leftO
      rw [if_pos]
      · exact hs
      · rw [Bool.and_eq_true, decide_eq_true_eq, List.length_take]
        exact ⟨hb.1, by omega⟩
  · exact absurd h (by simp)

/-- The three scripts tell all, and nothing comes behind them. -/
theorem script_tells (n : Nat) (h1 : 1 ≤ n) (h4 : n ≤ 4) (kind : Int) (hk : 0 ≤ kind ∧ kind ≤ 2) : scriptB true n (scriptG true n kind) = true ∧ ∃ a s, scriptG true n kind = a :: s ∧ leftG true n (scriptG true n kind ++ [a]) = [] := by
  have hn : n = 1 ∨ n = 2 ∨ n = 3 ∨ n = 4 := by omega
  have hk3 : kind = 0 ∨ kind = 1 ∨ kind = 2 := by omega
  rcases hn with rfl | rfl | rfl | rfl <;> rcases hk3 with rfl | rfl | rfl <;> exact ⟨by kernel_rfl, _, _, rfl, by kernel_rfl⟩

end Go.Proofs.Ytfgglainjaplgaa

namespace Go.Proofs.Ytfgglainjaplgaa
open Go.RowKit

theorem one_comp (kind : Int) (hk : kind = 0 ∨ kind = 1 ∨ kind = 2) : ∀ a ∈ scriptG true 1 kind, a.cs = [0] := by
  rcases hk with rfl | rfl | rfl <;> decide
theorem leftAll_of {n : Nat} {s : List Scn} {H : List (List Int)} (h : leftO true n s = some H) : leftAll true n s (nothing n) = some H := by
  unfold leftO at h
  split at h
  · exact h
  · cases h
theorem pass_rows (kind : Int) (hk : kind = 0 ∨ kind = 1 ∨ kind = 2) (i : Nat) (hi : i < (scriptG true 1 kind).length) :
    ∃ row row', leftG true 1 ((scriptG true 1 kind).take i) = [row] ∧ leftG true 1 ((scriptG true 1 kind).take (i + 1)) = [row'] ∧ row.length = 64 ∧ row'.length = 64 ∧ passB (scriptG true 1 kind)[i] = true ∧
      leftRow (wantOf (scriptG true 1 kind)[i]) (scriptG true 1 kind)[i].lo (scriptG true 1 kind)[i].fr.toNat (placesOf (scriptG true 1 kind)[i]) row = some row' := by
  obtain ⟨hB, _⟩ := script_tells 1 (by omega) (by omega) kind (by omega)
  have hc := one_comp kind hk _ (List.getElem_mem hi)
  generalize scriptG true 1 kind = S at *
  obtain ⟨X, hX⟩ : ∃ X, leftO true 1 S = some X := by
    unfold scriptB at hB
    cases h : leftO true 1 S with
    | none => rw [h] at hB; cases hB
    | some X => exact ⟨X, rfl⟩
  obtain ⟨H, h1, r1, _⟩ := left_half hX i (by omega)
  obtain ⟨H', h2, r2, _⟩ := left_half hX (i + 1) (by omega)
  have a1 := leftAll_of h1
  have a2 := leftAll_of h2
  rw [List.take_succ_eq_append_getElem hi, leftAll_app, a1] at a2
  generalize S[i] = a at *
  have a3 : leftAll true 1 [a] H = some H' := a2
  unfold leftAll at a3
  split at a3
  · rename_i hs
    have hp : passB a = true := by unfold scanB at hs; simp only [Bool.and_eq_true] at hs; exact hs.2
    have hls : leftScan a H = some H' := by
      cases h : leftScan a H with
      | none => rw [h] at a3; cases a3
      | some Y => rw [h] at a3; exact a3
    unfold leftScan at hls
    rw [hc] at hls
    unfold leftComps at hls
    obtain ⟨row, rfl⟩ : ∃ row, H = [row] := by
      match H, r1.1 with
      | [row], _ => exact ⟨row, rfl⟩
    have e0 : ([row] : List (List Int)).getD (0 : Int).toNat [] = row := rfl
    rw [e0] at hls
    cases hr : leftRow (wantOf a) a.lo a.fr.toNat (a.to - a.fr + 1).toNat row with
    | none => rw [hr] at hls; cases hls
    | some row' =>
      rw [hr] at hls
      have e1 : H' = [row'] := (Option.some.inj hls).symm
      refine ⟨row, row', ?_, ?_, r1.2 0 (by omega), ?_, hp, hr⟩
      · unfold leftG; rw [h1]; rfl
      · unfold leftG; rw [h2, e1]; rfl
      · have h := r2.2 0 (by omega)
        rw [e1] at h
        exact h
  · cases a3
/-- Ahead of all scans nothing was told. -/
theorem rows_none : leftG true 1 [] = [List.replicate 64 (-1)] := rfl
theorem rep_at (n : Nat) (x d : Int) (k : Nat) (hk : k < n) : (List.replicate n x).getD k d = x := by simp [hk]
theorem trunc_none (y : List Int) : truncL y (List.replicate 64 (-1)) = zs64 := by
  refine ext64 (truncL_len _ _) zs64_len (fun k hk => ?_)
  rw [truncL_at _ _ k hk]
  have e : (List.replicate 64 (-1 : Int)).getD k 0 = -1 := rep_at 64 (-1) 0 k hk
  have e2 : zs64.getD k 0 = 0 := rep_at 64 0 0 k hk
  rw [e, e2]
  rfl
/-- What the law asks of each number. -/
theorem want_is (y l : Int) (hl : 0 ≤ l) : truncI y l = if y < 0 then -(absI y / 2 ^ l.toNat * 2 ^ l.toNat) else absI y / 2 ^ l.toNat * 2 ^ l.toNat := by
  unfold truncI cutI absI
  rw [if_neg (by omega)]
  by_cases h : y < 0
  · rw [if_pos h, if_pos h, if_pos h, Int.neg_mul]
  · rw [if_neg h, if_neg h, if_neg h]

theorem lawAbs (n : Int) (hn : -32767 ≤ n ∧ n ≤ 32767) (w : World) :
    Calls Try.prog 21 #[.int .i64 n] w fun e w' => e = .returned (.int .i64 (absI n)) ∧ w = w' := by
  by_cases h : n < 0
  · have e1 := i64_in (-n) (by omega)
    have hd : decide (n < 0) = true := decide_eq_true h
    have ea : absI n = -n := by unfold absI; rw [if_pos h]
    rw [ea]
    go_enter Try.func21, Try.ntmps21
    go_wp2
    go_ret
    exact ⟨rfl, rfl⟩
  · have hd : decide (n < 0) = false := decide_eq_false h
    have ea : absI n = n := by unfold absI; rw [if_neg h]
    rw [ea]
    go_enter Try.func21, Try.ntmps21
    go_wp2
    go_ret
    exact ⟨rfl, rfl⟩

end Go.Proofs.Ytfgglainjaplgaa

namespace Go.Proofs.Ytfgglainjaplgaa
open Go.RowKit

/-- The block behind the first i scans of a script: each number to the bits that were told. -/
def nowAt (xs : List Int) (S : List Scn) (i : Nat) : List Int := unzigged (truncL (zigged xs) ((leftG true 1 (S.take i)).getD 0 []))
theorem now_next {xs : List Int} (hx : levB (-16383) 16383 xs = true) (kind : Int) (hk : kind = 0 ∨ kind = 1 ∨ kind = 2) (i : Nat) (hi : i < (scriptG true 1 kind).length) :
    (scriptG true 1 kind)[i].cs = [0] ∧ ((scriptG true 1 kind)[i].hi = 0 → putFirstG (nowAt xs (scriptG true 1 kind) i) (scriptG true 1 kind)[i] (firstG xs (scriptG true 1 kind)[i]) = nowAt xs (scriptG true 1 kind) (i + 1)) ∧
      ((scriptG true 1 kind)[i].hi ≠ 0 → putRefineG (nowAt xs (scriptG true 1 kind) i) (scriptG true 1 kind)[i] (refineG xs (scriptG true 1 kind)[i]) = nowAt xs (scriptG true 1 kind) (i + 1)) := by
  obtain ⟨row, row', h1, h2, h3, _, h5, h6⟩ := pass_rows kind hk i hi
  have hp := pass_put hx h5 h3 h6
  have e1 : nowAt xs (scriptG true 1 kind) i = unzigged (truncL (zigged xs) row) := by unfold nowAt; rw [h1]; rfl
  have e2 : nowAt xs (scriptG true 1 kind) (i + 1) = unzigged (truncL (zigged xs) row') := by unfold nowAt; rw [h2]; rfl
  refine ⟨one_comp kind hk _ (List.getElem_mem hi), fun h0 => ?_, fun h0 => ?_⟩
  · rw [e1, e2, ← hp, if_pos h0]
  · rw [e1, e2, ← hp, if_neg h0]
theorem now_lev {xs : List Int} (hx : levB (-16383) 16383 xs = true) (S : List Scn) (i : Nat) : levB (-16383) 16383 (nowAt xs S i) = true := lev_unzig (truncL_lev hx)
theorem now_zig (xs : List Int) (S : List Scn) (i : Nat) : zigged (nowAt xs S i) = truncL (zigged xs) ((leftG true 1 (S.take i)).getD 0 []) := zig_back (truncL_len _ _)
theorem now_begin (xs : List Int) (S : List Scn) : nowAt xs S 0 = List.replicate 64 0 := by
  unfold nowAt
  rw [List.take_zero, rows_none]
  show unzigged (truncL (zigged xs) (List.replicate 64 (-1))) = _
  rw [trunc_none]
  refine ext64 (made_len _) (by simp) (fun k hk => ?_)
  unfold unzigged
  rw [made_at _ k hk, rep_at 64 0 0 k hk]
  exact rep_at 64 0 0 _ (zzI_lt k hk)
theorem unzig_zig {xs : List Int} (hl : xs.length = 64) : unzigged (zigged xs) = xs := by
  refine ext64 (made_len _) hl (fun k hk => ?_)
  unfold unzigged
  rw [made_at _ k hk]
  unfold zigged
  rw [made_at _ _ (zzI_lt k hk), zz_zzI k hk]
theorem now_end {xs : List Int} (hl : xs.length = 64) (kind : Int) (hk : kind = 0 ∨ kind = 1 ∨ kind = 2) : nowAt xs (scriptG true 1 kind) (scriptG true 1 kind).length = xs := by
  have hrow : leftG true 1 (scriptG true 1 kind) = [List.replicate 64 0] := by rcases hk with rfl | rfl | rfl <;> kernel_rfl
  unfold nowAt
  rw [List.take_length, hrow]
  show unzigged (truncL (zigged xs) (List.replicate 64 0)) = xs
  have e : truncL (zigged xs) (List.replicate 64 0) = zigged xs := by
    refine ext64 (truncL_len _ _) (made_len _) (fun k hk => ?_)
    rw [truncL_at _ _ k hk, rep_at 64 0 0 k hk]
    unfold truncI cutI
    rw [if_neg (by omega)]
    simp
  rw [e, unzig_zig hl]
/-- What is left behind each scan: one row, of 64 numbers that are no greater than 13. -/
theorem row_in (kind : Int) (hk : kind = 0 ∨ kind = 1 ∨ kind = 2) (i : Nat) (hi : i < (scriptG true 1 kind).length) : ∃ row, leftG true 1 ((scriptG true 1 kind).take (i + 1)) = [row] ∧ row.length = 64 ∧ ∀ k, k < 64 → -1 ≤ row.getD k 0 ∧ row.getD k 0 ≤ 13 := by
  obtain ⟨_, row', _, h2, _, h4, _, _⟩ := pass_rows kind hk i hi
  refine ⟨row', h2, h4, ?_⟩
  have hall : (leftG true 1 ((scriptG true 1 kind).take (i + 1))).all (fun row => row.all (fun x => decide (-1 ≤ x ∧ x ≤ 13))) = true := by
    have key : ∀ j, j < 7 → (leftG true 1 ((scriptG true 1 kind).take j)).all (fun row => row.all (fun x => decide (-1 ≤ x ∧ x ≤ 13))) = true := by
      rcases hk with rfl | rfl | rfl <;> decide +kernel
    have hlen : (scriptG true 1 kind).length ≤ 6 := by rcases hk with rfl | rfl | rfl <;> decide
    exact key (i + 1) (by omega)
  rw [h2] at hall
  simp only [List.all_cons, List.all_nil, Bool.and_true, List.all_eq_true, decide_eq_true_eq] at hall
  intro k hk2
  have := hall (row'.getD k 0) (by rw [List.getD_eq_getElem?_getD, List.getElem?_eq_getElem (by omega)]; simp)
  exact this
theorem script_few (kind : Int) (hk : kind = 0 ∨ kind = 1 ∨ kind = 2) : (scriptG true 1 kind).length ≤ 6 := by rcases hk with rfl | rfl | rfl <;> decide
/-- What the law asks of a number is what stands there. -/
theorem now_want (xs : List Int) (S : List Scn) (i : Nat) (row : List Int) (hr : leftG true 1 (S.take i) = [row]) (k : Nat) (hk : k < 64) : (zigged (nowAt xs S i)).getD k 0 = truncI ((zigged xs).getD k 0) (row.getD k 0) := by
  rw [now_zig, hr]
  exact truncL_at _ _ k hk

theorem rdSs_take {w : World} {uo : Option Addr} {n uc : Nat} {S : List Scn} (h : RdSs w (.slice uo n uc) S) (k : Nat) (hk : k ≤ S.length) (uc' : Nat) : RdSs w (.slice uo k uc') (S.take k) := by
  obtain ⟨ao, cap, e, hel⟩ := h
  obtain ⟨e1, -, -⟩ := Value.slice.inj e
  subst e1
  have hl : (S.take k).length = k := by simp; omega
  refine ⟨uo, uc', by rw [hl], fun i hi => ?_⟩
  obtain ⟨b, off, c, e1, h1, h2⟩ := hel i (by omega)
  refine ⟨b, off, c, e1, h1, ?_⟩
  rw [List.getElem_take]
  exact h2

/-- What stays as it is while the law goes through a script. -/
structure Ps (W : World) (so : Option Addr) (k : Nat) (xs : List Int) (fb : Nat) (fo uo : Option Addr) (sn uc : Nat) (S : List Scn) : Prop where
  blk : Rd .i64 W so k xs
  fr : W.heap[fb]? = some (.cells #[.int .i64 8, .int .i64 8, .int .i64 8, .int .i64 0, .slice fo 1 1] 33 (0, 0))
  rc : RdC W fo 1 (fun _ j => if j = 1 ∨ j = 2 then 1 else 0)
  sc : RdSs W (.slice uo sn uc) S
theorem Ps.new {W W' : World} {so : Option Addr} {k : Nat} {xs : List Int} {fb : Nat} {fo uo : Option Addr} {sn uc : Nat} {S : List Scn} (h : Ps W so k xs fb fo uo sn uc S) (g : W.grownBy W' none) : Ps W' so k xs fb fo uo sn uc S :=
  ⟨h.blk.grown g, at_rowS g h.fr (by simp), h.rc.grown g, RdSs.st _ _ _ _ h.sc g⟩
theorem own_capG {w : World} {base sz : Nat} {e : TypeId} {ao : Option Addr} {n cap : Nat} {xs : List Value} (h : w.ownsRow base e sz (.slice ao n cap) n xs) : n ≤ cap := by
  rcases h.2 with ⟨h1, h2⟩ | ⟨g, cap', cur, h1, _, _, h4, _⟩
  · omega
  · simp only [Value.slice.injEq, true_and] at h1
    omega
/-- A scan of a script that is read. -/
theorem scan_at {w : World} {uo : Option Addr} {n uc : Nat} {S : List Scn} (h : RdSs w (.slice uo n uc) S) (i : Nat) (hi : i < S.length) : ∃ b off vo vc, uo = some ⟨b, off, none⟩ ∧ (w.cell? ⟨b, off + i * 5, none⟩ = some (.slice vo S[i].cs.length vc) ∧ w.cell? ⟨b, off + i * 5 + 1, none⟩ = some (.int .i64 S[i].fr) ∧ w.cell? ⟨b, off + i * 5 + 2, none⟩ = some (.int .i64 S[i].to) ∧ w.cell? ⟨b, off + i * 5 + 3, none⟩ = some (.int .i64 S[i].hi) ∧ w.cell? ⟨b, off + i * 5 + 4, none⟩ = some (.int .i64 S[i].lo)) ∧ Rd .i64 w vo S[i].cs.length S[i].cs := by
  obtain ⟨ao, cap, e, hel⟩ := h
  obtain ⟨e1, -, -⟩ := Value.slice.inj e
  subst e1
  obtain ⟨b, off, c, rfl, h1, h2⟩ := hel i hi
  obtain ⟨d0, d1, d2, d3, d4⟩ := rowScan h1 h2.1
  obtain ⟨vo, vc, e0, hr⟩ := h2.2
  rw [e0] at d0
  exact ⟨b, off, vo, vc, rfl, ⟨d0, d1, d2, d3, d4⟩, hr⟩
theorem one_frame : frameB 8 8 8 0 1 (fun _ j => if j = 1 ∨ j = 2 then 1 else 0) = true := by decide

end Go.Proofs.Ytfgglainjaplgaa

namespace Go.Proofs.Ytfgglainjaplgaa
open Go.RowKit

/-- An answer: a row of its own. -/
def Row13 (w : World) (L : List Int) (e : Ending) (w' : World) : Prop := ∃ so sc, e = .returned (.slice so L.length sc) ∧ w'.ownsRow w.heap.size 3 1 (.slice so L.length sc) L.length (L.map (Value.int .i64)) ∧ w.grownBy w' none
def ImplFirst : Prop := ∀ (ao : Option Addr) (n cap : Nat) (zs : List Int) (w : World), Rd .i64 w ao n zs → n ≤ 1048576 → ∀ (vo : Option Addr) (vn vc : Nat) (a : Scn), Rd .i64 w vo vn a.cs → vn ≤ 1048576 → ∀ (L : List Int), Hid (firstG zs a = L) →
    Calls Try.prog 12 #[.slice ao n cap, .agg #[.slice vo vn vc, .int .i64 a.fr, .int .i64 a.to, .int .i64 a.hi, .int .i64 a.lo]] w (Row13 w L)
def ImplRefine : Prop := ∀ (ao : Option Addr) (n cap : Nat) (zs : List Int) (w : World), Rd .i64 w ao n zs → n ≤ 1048576 → ∀ (vo : Option Addr) (vn vc : Nat) (a : Scn), Rd .i64 w vo vn a.cs → vn ≤ 1048576 → ∀ (L : List Int), Hid (refineG zs a = L) →
    Calls Try.prog 16 #[.slice ao n cap, .agg #[.slice vo vn vc, .int .i64 a.fr, .int .i64 a.to, .int .i64 a.hi, .int .i64 a.lo]] w (Row13 w L)
def ImplPutF : Prop := ∀ (ao : Option Addr) (n cap : Nat) (zs : List Int) (w : World), Rd .i64 w ao n zs → n ≤ 1048576 → ∀ (vo : Option Addr) (vn vc : Nat) (a : Scn), Rd .i64 w vo vn a.cs → vn ≤ 1048576 → ∀ (lo : Option Addr) (ln lc : Nat) (ls : List Int), Rd .i64 w lo ln ls → ln ≤ 1048576 → ∀ (L : List Int), Hid (putFirstG zs a ls = L) →
    Calls Try.prog 15 #[.slice ao n cap, .agg #[.slice vo vn vc, .int .i64 a.fr, .int .i64 a.to, .int .i64 a.hi, .int .i64 a.lo], .slice lo ln lc] w (Row13 w L)
def ImplPutR : Prop := ∀ (ao : Option Addr) (n cap : Nat) (zs : List Int) (w : World), Rd .i64 w ao n zs → n ≤ 1048576 → ∀ (vo : Option Addr) (vn vc : Nat) (a : Scn), Rd .i64 w vo vn a.cs → vn ≤ 1048576 → ∀ (lo : Option Addr) (ln lc : Nat) (ls : List Int), Rd .i64 w lo ln ls → ln ≤ 1048576 → ∀ (L : List Int), Hid (putRefineG zs a ls = L) →
    Calls Try.prog 18 #[.slice ao n cap, .agg #[.slice vo vn vc, .int .i64 a.fr, .int .i64 a.to, .int .i64 a.hi, .int .i64 a.lo], .slice lo ln lc] w (Row13 w L)

/-- An answer is never more than 64 numbers. -/
theorem first_few (zs : List Int) (a : Scn) : (firstG zs a).length ≤ 64 := by
  unfold firstG
  split
  · rename_i h
    have hp : passB a = true := by simp only [Bool.and_eq_true] at h; exact h.1.2
    unfold passB at hp
    simp only [Bool.and_eq_true, decide_eq_true_eq] at hp
    simp only [firstL, List.length_map, List.length_range, placesOf]
    omega
  · simp
theorem refine_few (zs : List Int) (a : Scn) : (refineG zs a).length ≤ 64 := by
  unfold refineG
  split
  · rename_i h
    have hp : passB a = true := by simp only [Bool.and_eq_true] at h; exact h.1.2
    unfold passB at hp
    simp only [Bool.and_eq_true, decide_eq_true_eq] at hp
    simp only [refineL, List.length_map, List.length_range, placesOf]
    omega
  · simp
theorem of_few (o : Option (List Int)) : (ofO o).length ≤ 64 := by
  unfold ofO
  split
  · unfold unzigged; rw [made_len]; exact Nat.le_refl _
  · simp
theorem putF_few (zs : List Int) (a : Scn) (ls : List Int) : (putFirstG zs a ls).length ≤ 64 := by
  unfold putFirstG
  split
  · exact of_few _
  · simp
theorem putR_few (zs : List Int) (a : Scn) (ls : List Int) : (putRefineG zs a ls).length ≤ 64 := by
  unfold putRefineG
  split
  · exact of_few _
  · simp

end Go.Proofs.Ytfgglainjaplgaa
