/-
  Lens that are drawn.
-/
import Derived.Test.YtcbaiagkdphkeaaFreqDraw
import Derived.Test.YtcbaiagkdphkeaaBestSpec
namespace Go.Proofs.Ytcbaiagkdphkeaa
open Go.RowKit

theorem bestG_le (fs : List Int) : (bestG fs).length ≤ fs.length := by
  by_cases h : freqsB fs = true
  · rw [best_len h]; exact Nat.le_refl _
  · have : bestG fs = [] := by unfold bestG; rw [if_neg h]
    rw [this]; simp

set_option maxRecDepth 20000 in
set_option maxHeartbeats 1600000 in
theorem drawLens (tb : Nat) (ao : Option Addr) (n cap p : Nat) (zs : List Int) (w : World) (h : Cur w tb ao n cap zs p) (hp : p ≤ 900000) (hcode : 0 < n → ∀ b off, ao = some ⟨b, off, none⟩ → b < w.heap.size) :
    Calls Try.prog 36 #[.pointer (some ⟨tb, 0, none⟩)] w fun e w' => ∃ (v : Value) (ys : List Int) (q : Nat), e = .returned v ∧ 1 ≤ ys.length ∧ ys.length ≤ 257 ∧ q ≤ p + 2050 ∧ Dw w tb ao n cap zs q w' v ys := by
  have hlt := h.lt
  have HAL := hide hcode
  have HC := hide h
  clear h hcode
  go_enter Try.func36, Try.ntmps36
  go_wp2_with fail
  refine (drawFreqs tb ao n cap p zs w (unhide HC) (by omega) (unhide HAL)).mono ?_
  rintro e w1 ⟨v1, Y, q1, rfl, hY1, hY2, hq1, d1⟩
  obtain ⟨so, sc, rfl⟩ := own_form d1.own
  have HR1 : Hid (Rd .i64 w1 so Y.length Y) := own_rd d1.own
  have HD1 := hide d1
  clear d1 HC
  go_wp2_with fail
  refine (specBestLens so Y.length sc Y w1 (unhide HR1)).mono ?_
  have hbl := bestG_le Y
  generalize bestG Y = X at hbl
  rintro e w2 ⟨v2, rfl, o2, g2⟩
  obtain ⟨bo, bc, rfl⟩ := own_form o2
  have HD2 : Hid (Dw w tb ao n cap zs q1 w2 (.slice bo X.length bc) X) := ⟨own_base o2 (unhide HD1).grown.size, (unhide HD1).cur.grown g2, grown_trans (unhide HD1).grown (grown_any g2)⟩
  clear o2 g2 HD1 HR1
  by_cases hX : X.length = 0
  · have hX0 : ((X.length : Int) == 0) = true := by simp [hX]
    have HD3 := hide (Dw.nil (unhide HD2).cur (unhide HD2).grown)
    go_wp2_with fail
    refine (size_of tb ao n cap q1 12 zs _ (unhide HD3).cur (by omega) (by omega) (by omega)).mono ?_
    rintro e w4 ⟨x, q4, rfl, hx0, hx1, c4, hq4, g4⟩
    obtain ⟨M, rfl⟩ := Int.eq_ofNat_of_zero_le hx0
    have HD4 := hide ((unhide HD3).pick hlt c4 g4)
    have e0 := i64_in (1 + (M : Int)) (by omega)
    clear c4 g4 HD3 HD2
    go_wp2
    go_loopw [3, 4] (fun v i wr => ∃ (j q : Nat) (Z : List Int), i = .int .i64 j ∧ Z.length + j ≤ 13 ∧ 1 ≤ Z.length + j ∧ q + 2 * j ≤ p + 2032 ∧ Hid (Dw w tb ao n cap zs q wr v Z)) (fun _ i _ => (intOf i).toNat)
    case atStart => exact ⟨M + 1, q4, [], by go_num, by simp; omega, by simp, by omega, HD4⟩
    case round =>
      clear HD4
      obtain ⟨j, q, Z, rfl, hj, hjp, hq, hD⟩ := hrel
      obtain ⟨zo, zc, rfl⟩ := own_form (unhide hD).own
      by_cases hj0 : 0 < j
      · have hd : decide ((0 : Int) < (j : Int)) = true := by simp; omega
        have e2 := i64_in ((j : Int) - 1) (by omega)
        go_wp2_with fail
        refine (pick_of tb ao n cap q 7 zs wr (unhide hD).cur (by omega) (by omega) (by omega)).mono ?_
        rintro e w5 ⟨y, q5, rfl, hy0, hy1, c5, hq5, g5⟩
        have HD5 := hide ((unhide hD).pick hlt c5 g5)
        clear c5 g5 hD
        obtain ⟨R, HR⟩ : ∃ R, Hid (Z ++ [y] = R) := ⟨_, rfl⟩
        have HRL : Hid (R.length = Z.length + 1) := by unfold Hid; rw [← unhide HR, List.length_append]; rfl
        go_wp2_with (at_builtin; refine append_dw rfl _ _ rfl w tb ao n cap zs q5 (.slice zo Z.length zc) Z rfl (unhide HD5) y rfl (by omega) hlt (unhide HAL) R (unhide HR) ?_)
        intro v6 w6 d6
        obtain ⟨so6, sc6, rfl⟩ := own_form d6.own
        have HD6 := hide d6
        clear d6 HD5
        go_wp2
        go_roundw
        case rel => exact ⟨j - 1, q5, R, by go_num, by have := unhide HRL; omega, by have := unhide HRL; omega, by omega, HD6⟩
        case measure => simp [intOf]; omega
      · have hd : decide ((0 : Int) < (j : Int)) = false := by simp; omega
        have hZ1 : 1 ≤ Z.length := by omega
        obtain ⟨g, rfl, _, _⟩ := own_at (unhide hD).own hZ1
        go_wp2_with fail
        refine (once_of tb ao n cap q 14 zs wr (unhide hD).cur (by omega) (by omega) (by omega)).mono ?_
        rintro e w6 ⟨t6, q6, rfl, c6, hq6, g6⟩
        have HD6 := hide ((unhide hD).pick hlt c6 g6)
        clear c6 g6 hD
        cases t6 with
        | false =>
          go_wp2
          go_ret
          exact ⟨_, Z, q6, rfl, hZ1, by omega, by omega, unhide HD6⟩
        | true =>
          go_wp2_with fail
          refine (pick_any tb ao n cap q6 Z.length zs w6 (unhide HD6).cur (by omega) (by omega) (by omega)).mono ?_
          rintro e w7 ⟨y, q7, rfl, hy0, hy1, c7, hq7, g7⟩
          obtain ⟨yn, rfl⟩ := Int.eq_ofNat_of_zero_le hy0
          have HD7 := hide ((unhide HD6).pick hlt c7 g7)
          clear c7 g7 HD6
          go_wp2_with fail
          refine (pick_of tb ao n cap q7 5 zs _ ((unhide HD7).new (World.grownBy_alloc _ _ _)).cur (by omega) (by omega) (by omega)).mono ?_
          rintro e w8 ⟨z, q8, rfl, hz0, hz1, c8, hq8, g8⟩
          obtain ⟨zn, rfl⟩ := Int.eq_ofNat_of_zero_le hz0
          have hu := g8.cell (five_at 3 (W := w7) (i := zn) (by omega) _ _ _ _ _) (by have := (unhide HD7).grown.size; simp; omega)
          generalize fiveG _ _ _ _ _ zn = u at hu
          have HD8 := hide (((unhide HD7).new (World.grownBy_alloc _ _ _)).pick hlt c8 g8)
          obtain ⟨⟨v, hv⟩, hfr⟩ := (unhide HD8).at' rfl (k := yn) (by omega)
          have HD9 := hide ((unhide HD8).put hlt (unhide HAL) rfl yn u)
          clear c8 g8 HD7 HD8
          go_wp2
          go_ret
          exact ⟨_, Z.set yn u, q8, rfl, by simp; omega, by simp; omega, by omega, unhide HD9⟩
  · have hX0 : ((X.length : Int) == 0) = false := beq_false_of_ne (by omega)
    have hX1 : 1 ≤ X.length := by omega
    go_wp2_with fail
    refine (once_of tb ao n cap q1 4 zs w2 (unhide HD2).cur (by omega) (by omega) (by omega)).mono ?_
    rintro e w3 ⟨t3, q3, rfl, c3, hq3, g3⟩
    have HDa := hide ((unhide HD2).pick hlt c3 g3)
    clear c3 g3 HD2
    cases t3 with
    | true =>
      have HD3 := hide (Dw.nil (unhide HDa).cur (unhide HDa).grown)
      go_wp2_with fail
      refine (size_of tb ao n cap q3 12 zs _ (unhide HD3).cur (by omega) (by omega) (by omega)).mono ?_
      rintro e w4 ⟨x, q4, rfl, hx0, hx1, c4, hq4, g4⟩
      obtain ⟨M, rfl⟩ := Int.eq_ofNat_of_zero_le hx0
      have HD4 := hide ((unhide HD3).pick hlt c4 g4)
      have e0 := i64_in (1 + (M : Int)) (by omega)
      clear c4 g4 HD3 HDa
      go_wp2
      go_loopw [3, 4] (fun v i wr => ∃ (j q : Nat) (Z : List Int), i = .int .i64 j ∧ Z.length + j ≤ 13 ∧ 1 ≤ Z.length + j ∧ q + 2 * j ≤ p + 2032 ∧ Hid (Dw w tb ao n cap zs q wr v Z)) (fun _ i _ => (intOf i).toNat)
      case atStart => exact ⟨M + 1, q4, [], by go_num, by simp; omega, by simp, by omega, HD4⟩
      case round =>
        clear HD4
        obtain ⟨j, q, Z, rfl, hj, hjp, hq, hD⟩ := hrel
        obtain ⟨zo, zc, rfl⟩ := own_form (unhide hD).own
        by_cases hj0 : 0 < j
        · have hd : decide ((0 : Int) < (j : Int)) = true := by simp; omega
          have e2 := i64_in ((j : Int) - 1) (by omega)
          go_wp2_with fail
          refine (pick_of tb ao n cap q 7 zs wr (unhide hD).cur (by omega) (by omega) (by omega)).mono ?_
          rintro e w5 ⟨y, q5, rfl, hy0, hy1, c5, hq5, g5⟩
          have HD5 := hide ((unhide hD).pick hlt c5 g5)
          clear c5 g5 hD
          obtain ⟨R, HR⟩ : ∃ R, Hid (Z ++ [y] = R) := ⟨_, rfl⟩
          have HRL : Hid (R.length = Z.length + 1) := by unfold Hid; rw [← unhide HR, List.length_append]; rfl
          go_wp2_with (at_builtin; refine append_dw rfl _ _ rfl w tb ao n cap zs q5 (.slice zo Z.length zc) Z rfl (unhide HD5) y rfl (by omega) hlt (unhide HAL) R (unhide HR) ?_)
          intro v6 w6 d6
          obtain ⟨so6, sc6, rfl⟩ := own_form d6.own
          have HD6 := hide d6
          clear d6 HD5
          go_wp2
          go_roundw
          case rel => exact ⟨j - 1, q5, R, by go_num, by have := unhide HRL; omega, by have := unhide HRL; omega, by omega, HD6⟩
          case measure => simp [intOf]; omega
        · have hd : decide ((0 : Int) < (j : Int)) = false := by simp; omega
          have hZ1 : 1 ≤ Z.length := by omega
          obtain ⟨g, rfl, _, _⟩ := own_at (unhide hD).own hZ1
          go_wp2_with fail
          refine (once_of tb ao n cap q 14 zs wr (unhide hD).cur (by omega) (by omega) (by omega)).mono ?_
          rintro e w6 ⟨t6, q6, rfl, c6, hq6, g6⟩
          have HD6 := hide ((unhide hD).pick hlt c6 g6)
          clear c6 g6 hD
          cases t6 with
          | false =>
            go_wp2
            go_ret
            exact ⟨_, Z, q6, rfl, hZ1, by omega, by omega, unhide HD6⟩
          | true =>
            go_wp2_with fail
            refine (pick_any tb ao n cap q6 Z.length zs w6 (unhide HD6).cur (by omega) (by omega) (by omega)).mono ?_
            rintro e w7 ⟨y, q7, rfl, hy0, hy1, c7, hq7, g7⟩
            obtain ⟨yn, rfl⟩ := Int.eq_ofNat_of_zero_le hy0
            have HD7 := hide ((unhide HD6).pick hlt c7 g7)
            clear c7 g7 HD6
            go_wp2_with fail
            refine (pick_of tb ao n cap q7 5 zs _ ((unhide HD7).new (World.grownBy_alloc _ _ _)).cur (by omega) (by omega) (by omega)).mono ?_
            rintro e w8 ⟨z, q8, rfl, hz0, hz1, c8, hq8, g8⟩
            obtain ⟨zn, rfl⟩ := Int.eq_ofNat_of_zero_le hz0
            have hu := g8.cell (five_at 3 (W := w7) (i := zn) (by omega) _ _ _ _ _) (by have := (unhide HD7).grown.size; simp; omega)
            generalize fiveG _ _ _ _ _ zn = u at hu
            have HD8 := hide (((unhide HD7).new (World.grownBy_alloc _ _ _)).pick hlt c8 g8)
            obtain ⟨⟨v, hv⟩, hfr⟩ := (unhide HD8).at' rfl (k := yn) (by omega)
            have HD9 := hide ((unhide HD8).put hlt (unhide HAL) rfl yn u)
            clear c8 g8 HD7 HD8
            go_wp2
            go_ret
            exact ⟨_, Z.set yn u, q8, rfl, by simp; omega, by simp; omega, by omega, unhide HD9⟩
    | false =>
      obtain ⟨g, rfl, _, _⟩ := own_at (unhide HDa).own hX1
      go_wp2_with fail
      refine (once_of tb ao n cap q3 14 zs w3 (unhide HDa).cur (by omega) (by omega) (by omega)).mono ?_
      rintro e w6 ⟨t6, q6, rfl, c6, hq6, g6⟩
      have HD6 := hide ((unhide HDa).pick hlt c6 g6)
      clear c6 g6 HDa
      cases t6 with
      | false =>
        go_wp2
        go_ret
        exact ⟨_, X, q6, rfl, hX1, by omega, by omega, unhide HD6⟩
      | true =>
        go_wp2_with fail
        refine (pick_any tb ao n cap q6 X.length zs w6 (unhide HD6).cur (by omega) (by omega) (by omega)).mono ?_
        rintro e w7 ⟨y, q7, rfl, hy0, hy1, c7, hq7, g7⟩
        obtain ⟨yn, rfl⟩ := Int.eq_ofNat_of_zero_le hy0
        have HD7 := hide ((unhide HD6).pick hlt c7 g7)
        clear c7 g7 HD6
        go_wp2_with fail
        refine (pick_of tb ao n cap q7 5 zs _ ((unhide HD7).new (World.grownBy_alloc _ _ _)).cur (by omega) (by omega) (by omega)).mono ?_
        rintro e w8 ⟨z, q8, rfl, hz0, hz1, c8, hq8, g8⟩
        obtain ⟨zn, rfl⟩ := Int.eq_ofNat_of_zero_le hz0
        have hu := g8.cell (five_at 3 (W := w7) (i := zn) (by omega) _ _ _ _ _) (by have := (unhide HD7).grown.size; simp; omega)
        generalize fiveG _ _ _ _ _ zn = u at hu
        have HD8 := hide (((unhide HD7).new (World.grownBy_alloc _ _ _)).pick hlt c8 g8)
        obtain ⟨⟨v, hv⟩, hfr⟩ := (unhide HD8).at' rfl (k := yn) (by omega)
        have HD9 := hide ((unhide HD8).put hlt (unhide HAL) rfl yn u)
        clear c8 g8 HD7 HD8
        go_wp2
        go_ret
        exact ⟨_, X.set yn u, q8, rfl, by simp; omega, by simp; omega, by omega, unhide HD9⟩

end Go.Proofs.Ytcbaiagkdphkeaa
