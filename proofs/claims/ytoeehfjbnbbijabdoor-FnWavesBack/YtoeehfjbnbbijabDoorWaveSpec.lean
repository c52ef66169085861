/-
  Waves in the specification: rounding and the basis.
-/
import Derived.Test.YtoeehfjbnbbijabDoorWaveImpl
import Derived.Test.YtoeehfjbnbbijabDoorTabBySpec
namespace Go.Proofs.YtoeehfjbnbbijabDoor
open Go.RowKit

theorem specFloorD (n u : Int) (hn : -4000000000000000 ≤ n ∧ n ≤ 4000000000000000) (hu : Hid (n / 33554432 = u)) (w : World) :
    Calls Tryd.prog 39 #[.int .i64 n, .int .i64 33554432] w fun e w' => e = .returned (.int .i64 u) ∧ w = w' := by
  by_cases h : 0 ≤ n
  · have h2 : n.tdiv 33554432 = n / 33554432 := Int.tdiv_eq_ediv_of_nonneg h
    go_enter Tryd.func39, Tryd.ntmps39
    go_wp2
    go_ret
    refine ⟨ret_int ?_, rfl⟩
    first | exact unhide hu | (rw [h2]; exact unhide hu)
  · obtain ⟨m, rfl⟩ : ∃ m, n = -m := ⟨-n, by omega⟩
    have h2 : (m + 33554432 - 1).tdiv 33554432 = (m + 33554432 - 1) / 33554432 := Int.tdiv_eq_ediv_of_nonneg (by omega)
    have h5 : -((m + 33554432 - 1) / 33554432) = u := by have := unhide hu; omega
    have e1 := i64_in (m + 33554432) (by omega)
    have e2 := i64_in (m + 33554432 - 1) (by omega)
    clear hu
    go_enter Tryd.func39, Tryd.ntmps39
    go_wp2
    go_ret
    refine ⟨ret_int ?_, rfl⟩
    first | omega | (rw [h2]; omega)

theorem specRoundD (n u : Int) (hn : -1000000000000000 ≤ n ∧ n ≤ 1000000000000000) (hu : Hid (roundI n = u)) (w : World) :
    Calls Tryd.prog 21 #[.int .i64 n, .int .i64 16777216] w fun e w' => e = .returned (.int .i64 u) ∧ w = w' := by
  have HU : Hid ((2 * n + 16777216) / 33554432 = u) := unhide hu
  clear hu
  go_enter Tryd.func21, Tryd.ntmps21
  go_wp2_with fail
  refine (specFloorD (2 * n + 16777216) u (by omega) HU w).mono ?_
  rintro e w1 ⟨rfl, rfl⟩
  go_wp2
  go_ret
  exact ⟨rfl, rfl⟩

theorem qw_cell (w : World) (m : Nat) (hm : m < 9) : (w.alloc (.cells #[.int .i64 2048, .int .i64 2009, .int .i64 1892, .int .i64 1703, .int .i64 1448, .int .i64 1138, .int .i64 784, .int .i64 400, .int .i64 0] 3)).cell? ⟨w.heap.size, m, none⟩ = some (.int .i64 (qw m)) := by
  rw [cell_of_row _ _ m _ _ (0, 0) (heap_alloc_new w _)]
  have : m = 0 ∨ m = 1 ∨ m = 2 ∨ m = 3 ∨ m = 4 ∨ m = 5 ∨ m = 6 ∨ m = 7 ∨ m = 8 := by omega
  rcases this with rfl | rfl | rfl | rfl | rfl | rfl | rfl | rfl | rfl <;> rfl

set_option maxHeartbeats 800000 in
theorem specWave (m : Nat) (hm : m < 32) (w : World) :
    Calls Tryd.prog 23 #[.int .i64 (m : Int)] w fun e w' => e = .returned (.int .i64 (wvAt m)) ∧ w.grownBy w' none := by
  have hG : Hid (∀ o, w.grownBy (w.alloc o) none) := fun o => World.grownBy_alloc _ _ _
  by_cases h9 : m < 9
  · have hc := qw_cell w m h9
    have hv : wvAt m = qw m := by unfold wvAt; rw [if_pos (by omega)]
    have hb := qw_in m h9
    rw [hv]
    clear hv
    generalize qw m = z at *
    go_enter Tryd.func23, Tryd.ntmps23
    go_wp2
    go_ret
    exact ⟨rfl, unhide hG _⟩
  · by_cases h17 : m < 17
    · obtain ⟨j, hj⟩ : ∃ j, 16 - m = j := ⟨_, rfl⟩
      have hjI : (16 : Int) - (m : Int) = (j : Int) := by omega
      have hc := qw_cell w j (by omega)
      have hv : wvAt m = -qw j := by unfold wvAt; rw [if_neg (by omega), if_pos (by omega), hj]
      have hb := qw_in j (by omega)
      have hj9 : (j : Int) < 9 := by omega
      rw [hv]
      clear hv
      generalize qw j = z at *
      go_enter Tryd.func23, Tryd.ntmps23
      go_wp2
      go_ret
      exact ⟨rfl, unhide hG _⟩
    · by_cases h25 : m < 25
      · obtain ⟨j, hj⟩ : ∃ j, m - 16 = j := ⟨_, rfl⟩
        have hjI : (m : Int) - 16 = (j : Int) := by omega
        have hc := qw_cell w j (by omega)
        have hv : wvAt m = -qw j := by unfold wvAt; rw [if_neg (by omega), if_neg (by omega), if_pos (by omega), hj]
        have hb := qw_in j (by omega)
        have hj9 : (j : Int) < 9 := by omega
        rw [hv]
        clear hv
        generalize qw j = z at *
        go_enter Tryd.func23, Tryd.ntmps23
        go_wp2
        go_ret
        exact ⟨rfl, unhide hG _⟩
      · obtain ⟨j, hj⟩ : ∃ j, 32 - m = j := ⟨_, rfl⟩
        have hjI : (32 : Int) - (m : Int) = (j : Int) := by omega
        have hc := qw_cell w j (by omega)
        have hv : wvAt m = qw j := by unfold wvAt; rw [if_neg (by omega), if_neg (by omega), if_neg (by omega), hj]
        have hb := qw_in j (by omega)
        have hj9 : (j : Int) < 9 := by omega
        rw [hv]
        clear hv
        generalize qw j = z at *
        go_enter Tryd.func23, Tryd.ntmps23
        go_wp2
        go_ret
        exact ⟨rfl, unhide hG _⟩

theorem wv_take (k : Nat) (h : k < 64) (z : Int) (hz : z = wv k) : wvL.take k ++ [z] = wvL.take (k + 1) := by
  subst hz
  rw [List.take_add_one]
  have : wvL[k]? = some (wv k) := by
    rw [List.getElem?_eq_getElem (by rw [wv_len]; exact h)]
    simp [wv, List.getD_eq_getElem?_getD, List.getElem?_eq_getElem (show k < wvL.length by rw [wv_len]; exact h)]
  rw [this]
  rfl

set_option maxRecDepth 20000 in
set_option maxHeartbeats 1600000 in
theorem specBasis (w : World) :
    Calls Tryd.prog 10 #[] w fun e w' => ∃ so sc, e = .returned (.slice so wvL.length sc) ∧ w'.ownsRow w.heap.size 3 1 (.slice so wvL.length sc) wvL.length (wvL.map (Value.int .i64)) ∧ w.grownBy w' none := by
  have HO : Hid ((w.alloc (.cells #[] 3)).ownsRow w.heap.size 3 1 (.slice (some ⟨w.heap.size, 0, none⟩) 0 0) 0 []) := World.ownsRow_lit w #[] 0 (Nat.le_refl _) (by unfold maxLen; omega) rfl
  go_enter Tryd.func10, Tryd.ntmps10
  go_wp2
  go_loopw [1, 2] (fun o i wr => ∃ u : Nat, u ≤ 8 ∧ i = .int .i64 u ∧ Hid (wr.ownsRow w.heap.size 3 1 o (8 * u) ((wvL.take (8 * u)).map (Value.int .i64))) ∧ Hid (w.grownBy wr none)) (fun _ i _ => 8 - (intOf i).toNat)
  case atStart => exact ⟨0, Nat.zero_le _, rfl, unhide HO, World.grownBy_alloc _ _ _⟩
  case round =>
    obtain ⟨u, hu, rfl, hM, hgk⟩ := hrel
    obtain ⟨so, sc, rfl⟩ := own_form (unhide hM)
    by_cases hlt : u < 8
    · have HM := hide (unhide hM)
      clear hM
      have hd : decide ((u : Int) < 8) = true := by simp; omega
      go_wp2
      go_loopw [1, 3] (fun o i wr => ∃ x : Nat, x ≤ 8 ∧ i = .int .i64 x ∧ Hid (wr.ownsRow w.heap.size 3 1 o (8 * u + x) ((wvL.take (8 * u + x)).map (Value.int .i64))) ∧ Hid (w.grownBy wr none)) (fun _ i _ => 8 - (intOf i).toNat)
      case atStart => exact ⟨0, Nat.zero_le _, rfl, HM, hgk⟩
      case round =>
        obtain ⟨x, hx, rfl, hMk, hgk2⟩ := hrel
        obtain ⟨so2, sc2, rfl⟩ := own_form (unhide hMk)
        by_cases hltx : x < 8
        · have HMK := hide (unhide hMk)
          clear hMk
          by_cases h0 : u = 0
          · have heq : ((u : Int) == 0) = true := by simp; omega
            have HV : Hid ((1448 : Int) = wv (8 * u + x)) := (wv_flat _ (by omega) (by omega)).symm
            have H0 := hide h0
            clear h0
            go_wp2_with (at_builtin; refine append_int rfl _ _ rfl w _ (8 * u + x) (wvL.take (8 * u + x)) rfl (unhide HMK) _ rfl (by omega) (unhide hgk2) ?_; intro v' w' ho hg)
            go_roundw
            case rel =>
              refine ⟨x + 1, by omega, by go_num, ?_, hg⟩
              rw [wv_take _ (by omega) _ (unhide HV)] at ho
              exact ho
            case measure => simp [intOf]; omega
          · obtain ⟨s, hs⟩ : ∃ s : Nat, (2 * x + 1) * u = s := ⟨_, rfl⟩
            have hsb : s ≤ 105 := by rw [← hs]; exact Nat.mul_le_mul (show 2 * x + 1 ≤ 15 by omega) (show u ≤ 7 by omega)
            have hsI : (2 * (x : Int) + 1) * (u : Int) = (s : Int) := by rw [← hs]; simp
            obtain ⟨m, hm⟩ : ∃ m, s % 32 = m := ⟨_, rfl⟩
            have hmI : (s : Int) % 32 = (m : Int) := by omega
            have hm32 : m < 32 := by omega
            have HV : Hid (wvAt m = wv (8 * u + x)) := by
              unfold Hid
              have h := wv_at (8 * u + x) (by omega) (by omega)
              rw [show (8 * u + x) % 8 = x by omega, show (8 * u + x) / 8 = u by omega, hs, hm] at h
              exact h
            have hne : ((u : Int) == 0) = false := by simp; omega
            clear hs hm
            go_wp2_with fail
            refine (specWave m hm32 wr).mono ?_
            rintro e w5 ⟨rfl, g5⟩
            have HM5 := hide (own_grown (unhide HMK) g5)
            have HG5 := hide (grown_trans (unhide hgk2) g5)
            clear g5 HMK
            go_wp2_with (at_builtin; refine append_int rfl _ _ rfl w _ (8 * u + x) (wvL.take (8 * u + x)) rfl (unhide HM5) _ rfl (by omega) (unhide HG5) ?_; intro v' w' ho hg)
            go_roundw
            case rel =>
              refine ⟨x + 1, by omega, by go_num, ?_, hg⟩
              rw [wv_take _ (by omega) _ (unhide HV)] at ho
              exact ho
            case measure => simp [intOf]; omega
        · obtain rfl : x = 8 := by omega
          go_wp2
          go_roundw
          case rel => exact ⟨u + 1, by omega, by go_num, by unfold Hid; rw [show 8 * (u + 1) = 8 * u + 8 by omega]; exact unhide hMk, hgk2⟩
          case measure => simp [intOf]; omega
    · obtain rfl : u = 8 := by omega
      have hM := unhide hM
      rw [List.take_of_length_le (by rw [wv_len]; omega)] at hM
      have HM := hide hM
      clear hM
      go_wp2
      go_ret
      exact ⟨_, _, rfl, unhide HM, unhide hgk⟩

end Go.Proofs.YtoeehfjbnbbijabDoor
