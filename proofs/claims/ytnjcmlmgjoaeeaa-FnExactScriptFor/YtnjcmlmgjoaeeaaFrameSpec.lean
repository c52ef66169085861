/-
  The walk of the specification's FrameOk.
-/
import Derived.Test.YtnjcmlmgjoaeeaaFrameImpl3
import Derived.Test.YtnjcmlmgjoaeeaaBetween
namespace Go.Proofs.Ytnjcmlmgjoaeeaa
open Go.RowKit

set_option maxRecDepth 100000 in
set_option maxHeartbeats 3200000 in
theorem specFrameOk (p wd ht rs : Int) (ao : Option Addr) (n cap : Nat) (C : Nat → Nat → Int) (w : World) (hr : RdC w ao n C) (t : Bool) (HFB : Hid (frameB p wd ht rs n C = t)) :
    Calls Try.prog 13 #[.agg #[.int .i64 p, .int .i64 wd, .int .i64 ht, .int .i64 rs, .slice ao n cap]] w fun e w' => e = .returned (.bool t) ∧ w.grownBy w' none := by
  have HR := hide hr
  clear hr
  have G0 : Hid (w.grownBy (w.alloc (.cells #[.int .i64 p, .int .i64 wd, .int .i64 ht, .int .i64 rs, .slice ao n cap] 26)) none) := grown_alloc (World.grownBy.refl _ _) _
  have HB := hide (heap_alloc_new w (.cells #[.int .i64 p, .int .i64 wd, .int .i64 ht, .int .i64 rs, .slice ao n cap] 26))
  have hgs : w.heap.size < (w.alloc (.cells #[.int .i64 p, .int .i64 wd, .int .i64 ht, .int .i64 rs, .slice ao n cap] 26)).heap.size := by simp
  have hcase : (p = 8 ∨ p = 12) ∨ ((p != 8) = true ∧ (p != 12) = true ∧ (p == 8) = false ∧ (p == 12) = false) := by
    by_cases e8 : p = 8
    · exact .inl (.inl e8)
    · by_cases e12 : p = 12
      · exact .inl (.inr e12)
      · exact .inr (by simp [e8, e12])
  rcases hcase with hp | ⟨n8, n12, m8, m12⟩
  · obtain ⟨t1, HT1⟩ : ∃ t1, Hid (decide (1 ≤ wd ∧ wd ≤ 256) = t1) := ⟨_, rfl⟩
    obtain ⟨t2, HT2⟩ : ∃ t2, Hid (decide (1 ≤ ht ∧ ht ≤ 256) = t2) := ⟨_, rfl⟩
    obtain ⟨t4, HT4⟩ : ∃ t4, Hid (decide (0 ≤ rs ∧ rs ≤ 255) = t4) := ⟨_, rfl⟩
    obtain ⟨t5, HT5⟩ : ∃ t5, Hid (decide (1 ≤ (n : Int) ∧ (n : Int) ≤ 4) = t5) := ⟨_, rfl⟩
    have HP : Hid (t = ((t1 && (t2 && (decide (wd * ht ≤ 16384) && t4))) && (t5 && (okTo C n && decide (sumHV C n ≤ 10))))) := by
      have e : (p == 8 || p == 12) = true := by rcases hp with rfl | rfl <;> rfl
      unfold Hid; rw [← unhide HFB, frameB, compsB, headB, e, unhide HT1, unhide HT2, unhide HT4, unhide HT5, Bool.true_and]
    clear HFB
    cases t1
    · have HF : Hid (t = false) := by unfold Hid; rw [unhide HP]; rfl
      rcases hp with rfl | rfl
      all_goals
        go_enter Try.func13, Try.ntmps13
        go_wp2_with fail
        refine (between wd 1 256 _ HT1 _).mono ?_
        rintro e w1 ⟨rfl, rfl⟩
        go_wp2
        go_ret
        exact ⟨ret_bool (by rw [unhide HF]), unhide G0⟩
    · cases t2
      · have HF : Hid (t = false) := by unfold Hid; rw [unhide HP]; rfl
        rcases hp with rfl | rfl
        all_goals
          go_enter Try.func13, Try.ntmps13
          go_wp2_with fail
          refine (between wd 1 256 _ HT1 _).mono ?_
          rintro e w1 ⟨rfl, rfl⟩
          go_wp2_with fail
          refine (between ht 1 256 _ HT2 _).mono ?_
          rintro e w1 ⟨rfl, rfl⟩
          go_wp2
          go_ret
          exact ⟨ret_bool (by rw [unhide HF]), unhide G0⟩
      · have hb1 := of_decide_eq_true (unhide HT1)
        have hb2 := of_decide_eq_true (unhide HT2)
        have hm := mul_side hb1 hb2
        have hwr := i64_in (wd * ht) (by omega)
        clear hm hb1 hb2
        by_cases hle : wd * ht ≤ 16384
        · have HLE := hide hle
          have hdm : decide (16384 < wd * ht) = false := decide_eq_false (by omega)
          rw [decide_eq_true hle] at HP
          clear hle
          cases t4
          · have HF : Hid (t = false) := by unfold Hid; rw [unhide HP]; rfl
            rcases hp with rfl | rfl
            all_goals
              go_enter Try.func13, Try.ntmps13
              go_wp2_with fail
              refine (between wd 1 256 _ HT1 _).mono ?_
              rintro e w1 ⟨rfl, rfl⟩
              go_wp2_with fail
              refine (between ht 1 256 _ HT2 _).mono ?_
              rintro e w1 ⟨rfl, rfl⟩
              go_wp2_with fail
              refine (between rs 0 255 _ HT4 _).mono ?_
              rintro e w1 ⟨rfl, rfl⟩
              go_wp2
              go_ret
              exact ⟨ret_bool (by rw [unhide HF]), unhide G0⟩
          · cases t5
            · have HF : Hid (t = false) := by unfold Hid; rw [unhide HP]; rfl
              rcases hp with rfl | rfl
              all_goals
                go_enter Try.func13, Try.ntmps13
                go_wp2_with fail
                refine (between wd 1 256 _ HT1 _).mono ?_
                rintro e w1 ⟨rfl, rfl⟩
                go_wp2_with fail
                refine (between ht 1 256 _ HT2 _).mono ?_
                rintro e w1 ⟨rfl, rfl⟩
                go_wp2_with fail
                refine (between rs 0 255 _ HT4 _).mono ?_
                rintro e w1 ⟨rfl, rfl⟩
                go_wp2_with fail
                refine (between n 1 4 _ HT5 _).mono ?_
                rintro e w1 ⟨rfl, rfl⟩
                go_wp2
                go_ret
                exact ⟨ret_bool (by rw [unhide HF]), unhide G0⟩
            · have hn4 : n ≤ 4 := by have := of_decide_eq_true (unhide HT5); omega
              have HR2 : Hid (t = (okTo C n && decide (sumHV C n ≤ 10))) := by unfold Hid; rw [unhide HP]; rfl
              clear HP
              rcases hp with rfl | rfl
              all_goals
                go_enter Try.func13, Try.ntmps13
                go_wp2_with fail
                refine (between wd 1 256 _ HT1 _).mono ?_
                rintro e w1 ⟨rfl, rfl⟩
                go_wp2_with fail
                refine (between ht 1 256 _ HT2 _).mono ?_
                rintro e w1 ⟨rfl, rfl⟩
                go_wp2_with fail
                refine (between rs 0 255 _ HT4 _).mono ?_
                rintro e w1 ⟨rfl, rfl⟩
                go_wp2_with fail
                refine (between n 1 4 _ HT5 _).mono ?_
                rintro e w1 ⟨rfl, rfl⟩
                go_wp2
                clear hwr hdm
                generalize (w.alloc (.cells #[.int .i64 _, .int .i64 wd, .int .i64 ht, .int .i64 rs, .slice ao n cap] 26)) = wx at *
                go_loopw [3, 4] (fun b i wr => ∃ k : Nat, k ≤ n ∧ i = .int .i64 k ∧ b = .int .i64 (sumHV C k) ∧ okTo C k = true ∧ wx.grownBy wr none) (fun _ i _ => n - (intOf i).toNat)
                case atStart => exact ⟨0, Nat.zero_le _, rfl, rfl, rfl, World.grownBy.refl _ _⟩
                case round =>
                  obtain ⟨k, hk, rfl, rfl, hok, hgk⟩ := hrel
                  have hBf := (hgk.block w.heap.size hgs (by simp)).trans (unhide HB)
                  have c4 : wr.cell? ⟨w.heap.size, 4, none⟩ = some (.slice ao n cap) := by rw [cell_of_row wr _ 4 _ _ (0, 0) hBf]; rfl
                  clear hBf
                  by_cases hlt : k < n
                  · obtain ⟨b, off, rfl, hc⟩ := (unhide HR) k hlt
                    have hc' := fun j hj => (grown_trans (unhide G0) hgk).cell (hc j hj) (by simp)
                    have h0 := hc' 0 (by omega)
                    have h1 := hc' 1 (by omega)
                    have h2 := hc' 2 (by omega)
                    have h3 := hc' 3 (by omega)
                    rw [Nat.add_zero] at h0
                    clear hc hc'
                    have HRW := hide ((unhide HR).grown (grown_trans (unhide G0) hgk))
                    have HOK := hide hok
                    have HSB := hide (sumHV_bounds k hok)
                    obtain ⟨u1, HU1⟩ : ∃ u, Hid (decide (0 ≤ C k 0 ∧ C k 0 ≤ 255) = u) := ⟨_, rfl⟩
                    obtain ⟨u2, HU2⟩ : ∃ u, Hid (decide (1 ≤ C k 1 ∧ C k 1 ≤ 4) = u) := ⟨_, rfl⟩
                    obtain ⟨u3, HU3⟩ : ∃ u, Hid (decide (1 ≤ C k 2 ∧ C k 2 ≤ 4) = u) := ⟨_, rfl⟩
                    obtain ⟨u4, HU4⟩ : ∃ u, Hid (decide (0 ≤ C k 3 ∧ C k 3 ≤ 3) = u) := ⟨_, rfl⟩
                    have HS1 : Hid (okTo C (k + 1) = (okTo C k && ((u1 && (u2 && (u3 && u4))) && !idIn C k k))) := by unfold Hid; rw [okTo, compB, unhide HU1, unhide HU2, unhide HU3, unhide HU4]
                    have HS2 : Hid (sumHV C (k + 1) = sumHV C k + C k 1 * C k 2) := rfl
                    have STOP : Hid (((u1 && (u2 && (u3 && u4))) && !idIn C k k) = false → t = false) := fun h => by rw [unhide HR2, okTo_false (k := k + 1) (by rw [unhide HS1, h, Bool.and_false]) n hlt]; rfl
                    have HCK := hide (heap_alloc_new wr (.cells #[.int .i64 (C k 0), .int .i64 (C k 1), .int .i64 (C k 2), .int .i64 (C k 3)] 68))
                    have GK : Hid (wr.grownBy (wr.alloc (.cells #[.int .i64 (C k 0), .int .i64 (C k 1), .int .i64 (C k 2), .int .i64 (C k 3)] 68)) none) := grown_alloc (World.grownBy.refl _ _) _
                    have hgz : wr.heap.size < (wr.alloc (.cells #[.int .i64 (C k 0), .int .i64 (C k 1), .int .i64 (C k 2), .int .i64 (C k 3)] 68)).heap.size := by simp
                    have GR : Hid (w.grownBy wr none) := grown_trans (unhide G0) hgk
                    have GX := hide hgk
                    clear hok hgk
                    cases u1
                    · go_wp2_with fail
                      refine (between (C k 0) 0 255 _ HU1 _).mono ?_
                      rintro e w2 ⟨rfl, rfl⟩
                      go_wp2
                      go_ret
                      exact ⟨ret_bool (by rw [unhide STOP rfl]), grown_trans (unhide GR) (unhide GK)⟩
                    · go_wp2_with fail
                      refine (between (C k 0) 0 255 _ HU1 _).mono ?_
                      rintro e w2 ⟨rfl, rfl⟩
                      go_wp2_with fail
                      refine (between (C k 1) 1 4 _ HU2 _).mono ?_
                      rintro e w2 ⟨rfl, rfl⟩
                      cases u2
                      · go_wp2
                        go_ret
                        exact ⟨ret_bool (by rw [unhide STOP rfl]), grown_trans (unhide GR) (unhide GK)⟩
                      · go_wp2_with fail
                        refine (between (C k 2) 1 4 _ HU3 _).mono ?_
                        rintro e w2 ⟨rfl, rfl⟩
                        cases u3
                        · go_wp2
                          go_ret
                          exact ⟨ret_bool (by rw [unhide STOP rfl]), grown_trans (unhide GR) (unhide GK)⟩
                        · go_wp2_with fail
                          refine (between (C k 3) 0 3 _ HU4 _).mono ?_
                          rintro e w2 ⟨rfl, rfl⟩
                          cases u4
                          · go_wp2
                            go_ret
                            exact ⟨ret_bool (by rw [unhide STOP rfl]), grown_trans (unhide GR) (unhide GK)⟩
                          · go_wp2
                            have d4 := (unhide GK).cell c4 (by simp)
                            clear c4 h0 h1 h2 h3
                            generalize (wr.alloc (.cells #[.int .i64 (C k 0), .int .i64 (C k 1), .int .i64 (C k 2), .int .i64 (C k 3)] 68)) = wy at *
                            obtain ⟨wo, rfl⟩ : ∃ wo, wo = wr := ⟨_, rfl⟩
                            go_loopw [6] (fun i wi => ∃ m : Nat, m ≤ k ∧ i = .int .i64 m ∧ idIn C k m = false ∧ wy.grownBy wi none) (fun i _ => k - (intOf i).toNat)
                            case atStart => exact ⟨0, Nat.zero_le _, rfl, rfl, World.grownBy.refl _ _⟩
                            case round =>
                              obtain ⟨m, hm, rfl, hid, hgi⟩ := hrel
                              have hBx := (hgi.block wo.heap.size hgz (by simp)).trans (unhide HCK)
                              by_cases hml : m < k
                              · have i4 := hgi.cell d4 (by simp)
                                have cx : wr.cell? ⟨wo.heap.size, 0, none⟩ = some (.int .i64 (C k 0)) := by rw [cell_of_row wr _ 0 _ _ (0, 0) hBx]; rfl
                                obtain ⟨b', off', e', hcm⟩ := (unhide HRW) m (by omega)
                                simp only [Option.some.injEq, Addr.mk.injEq] at e'
                                obtain ⟨rfl, rfl, _⟩ := e'
                                have cm := (grown_trans (unhide GK) hgi).cell (hcm 0 (by omega)) (by simp)
                                rw [Nat.add_zero] at cm
                                have HST : Hid (idIn C k (m + 1) = (idIn C k m || (C m 0 == C k 0))) := rfl
                                have HTR : Hid ((C m 0 == C k 0) = true → t = false) := fun h => unhide STOP (by rw [idIn_true h k hml]; rfl)
                                have HID := hide hid
                                have hmn : (m : Int) < (n : Int) := by omega
                                clear hBx hcm hid d4
                                generalize C m 0 = x at *
                                generalize C k 0 = y at *
                                cases hxy : (x == y) with
                                | false =>
                                  have HXY := hide hxy
                                  go_wp2
                                  go_quiet (fail)
                                  go_wp2
                                  go_roundw
                                  case rel => exact ⟨m + 1, by omega, by go_num, by rw [unhide HST, unhide HID, unhide HXY]; rfl, grown_drewN hgi _⟩
                                  case measure => simp [intOf]; omega
                                | true =>
                                  have HXY := hide hxy
                                  go_wp2
                                  go_quiet (fail)
                                  go_wp2
                                  go_ret
                                  exact ⟨ret_bool (by rw [unhide HTR (unhide HXY)]), grown_trans (unhide GR) (grown_trans (unhide GK) (grown_drewN hgi _))⟩
                              · have hmk : m = k := by omega
                                subst hmk
                                have c1 : wr.cell? ⟨wo.heap.size, 1, none⟩ = some (.int .i64 (C m 1)) := by rw [cell_of_row wr _ 1 _ _ (0, 0) hBx]; rfl
                                have c2 : wr.cell? ⟨wo.heap.size, 2, none⟩ = some (.int .i64 (C m 2)) := by rw [cell_of_row wr _ 2 _ _ (0, 0) hBx]; rfl
                                have hmul := mul_small (of_decide_eq_true (unhide HU2)) (of_decide_eq_true (unhide HU3))
                                have hsb := unhide HSB
                                have HID := hide hid
                                clear hBx hid d4
                                generalize C m 1 = x at *
                                generalize C m 2 = y at *
                                generalize hxy : x * y = z at *
                                have HXY := hide hxy
                                clear hxy
                                generalize sumHV C m = sm at *
                                clear hml hm
                                go_wp2
                                go_roundw
                                case rel => exact ⟨m + 1, by omega, by go_num, by rw [unhide HXY, IntWalk.wrap64_in z (by omega), IntWalk.wrap64_in (sm + z) (by omega), unhide HS2], by rw [unhide HS1, unhide HOK, unhide HID]; rfl, grown_trans (unhide GX) (grown_trans (unhide GK) hgi)⟩
                                case measure => simp [intOf]; omega
                  · have hkn : k = n := by omega
                    subst hkn
                    have HF : Hid (t = decide (sumHV C k ≤ 10)) := by unfold Hid; rw [unhide HR2, hok, Bool.true_and]
                    have hsb := sumHV_bounds k hok
                    clear hok
                    go_wp2
                    go_ret
                    exact ⟨ret_bool (by rw [unhide HF]), grown_trans (unhide G0) hgk⟩
        · have hdm : decide (16384 < wd * ht) = true := decide_eq_true (by omega)
          have HF : Hid (t = false) := by unfold Hid; rw [unhide HP, decide_eq_false hle]; rfl
          clear hle
          rcases hp with rfl | rfl
          all_goals
            go_enter Try.func13, Try.ntmps13
            go_wp2_with fail
            refine (between wd 1 256 _ HT1 _).mono ?_
            rintro e w1 ⟨rfl, rfl⟩
            go_wp2_with fail
            refine (between ht 1 256 _ HT2 _).mono ?_
            rintro e w1 ⟨rfl, rfl⟩
            go_wp2
            go_ret
            exact ⟨ret_bool (by rw [unhide HF]), unhide G0⟩
  · have HF : Hid (t = false) := by unfold Hid; rw [← unhide HFB, frameB, headB, m8, m12]; rfl
    clear HFB m8 m12
    go_enter Try.func13, Try.ntmps13
    go_wp2
    go_ret
    exact ⟨ret_bool (by rw [unhide HF]), unhide G0⟩

end Go.Proofs.Ytnjcmlmgjoaeeaa
