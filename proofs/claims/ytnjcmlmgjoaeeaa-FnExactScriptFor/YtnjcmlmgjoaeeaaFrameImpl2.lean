/-
  The walks of the program's frames with their components inside: the components.
-/
import Derived.Test.YtnjcmlmgjoaeeaaFrameImpl
namespace Go.Proofs.Ytnjcmlmgjoaeeaa
open Go.RowKit

/-- The cells of component i, where the frame lies. -/
theorem fx_cell {X : Array Value} {p wd ht rs n : Int} {C : Nat → Nat → Int} (hX : Fx X p wd ht rs n C) {w : World} {g : Nat} {t : TypeId} (hb : w.heap[g]? = some (.cells X t (0, 0))) (i j : Nat) (hi : i < 4) (hj : j < 4) :
    w.cell? ⟨g, 5 + i * 4 + j, none⟩ = some (.int .i64 (C i j)) := by rw [cell_of_row w g _ X t (0, 0) hb]; exact hX.comp i j hi hj

set_option maxHeartbeats 800000 in
theorem idAhead (X : Array Value) (p wd ht rs n : Int) (C : Nat → Nat → Int) (hX : Fx X p wd ht rs n C) (m : Nat) (hm : m < 4) (t : Bool) (HT : Hid (idIn C m m = t)) (w : World) :
    Calls Try.prog 90 #[.agg X, .int .i64 m] w fun e w' => e = .returned (.bool t) ∧ w.grownBy w' none := by
  have HX := hide hX
  have hs := hX.size
  have HB := hide (heap_alloc_new w (.cells X 71))
  have G0 : Hid (w.grownBy (w.alloc (.cells X 71)) none) := grown_alloc (World.grownBy.refl _ _) _
  have hgs : w.heap.size < (w.alloc (.cells X 71)).heap.size := by simp
  clear hX
  go_enter Try.func90, Try.ntmps90
  go_wp2
  generalize (w.alloc (.cells X 71)) = wx at *
  go_loopw [7] (fun i wr => ∃ k : Nat, k ≤ m ∧ i = .int .i64 k ∧ idIn C m k = false ∧ wx.grownBy wr none) (fun i _ => m - (intOf i).toNat)
  case atStart => exact ⟨0, Nat.zero_le _, rfl, rfl, World.grownBy.refl _ _⟩
  case round =>
    obtain ⟨k, hk, rfl, hid, hgk⟩ := hrel
    by_cases hlt : k < m
    · have hB := (hgk.block w.heap.size hgs (by simp)).trans (unhide HB)
      have hck := fx_cell (unhide HX) hB k 0 (by omega) (by omega)
      have hcm := fx_cell (unhide HX) hB m 0 (by omega) (by omega)
      rw [Nat.add_zero] at hck hcm
      have HST : Hid (idIn C m (k + 1) = (idIn C m k || (C k 0 == C m 0))) := rfl
      have HTR : Hid ((C k 0 == C m 0) = true → t = true) := fun h => by rw [← unhide HT]; exact idIn_true h m hlt
      have HID := hide hid
      clear hB hid
      generalize C k 0 = x at *
      generalize C m 0 = y at *
      cases hxy : (x == y) with
      | false =>
        have HXY := hide hxy
        go_wp2
        go_quiet (fail)
        go_wp2
        go_roundw
        case rel => exact ⟨k + 1, by omega, by go_num, by rw [unhide HST, unhide HID, unhide HXY]; rfl, grown_drewN hgk _⟩
        case measure => simp [intOf]; omega
      | true =>
        have HXY := hide hxy
        go_wp2
        go_quiet (fail)
        go_wp2
        go_ret
        exact ⟨ret_bool (by rw [unhide HTR (unhide HXY)]), grown_trans (unhide G0) (grown_drewN hgk _)⟩
    · have hkm : k = m := by omega
      subst hkm
      have HF : Hid (t = false) := by unfold Hid; rw [← unhide HT, hid]
      clear hid
      go_wp2
      go_ret
      exact ⟨ret_bool (by rw [unhide HF]), grown_trans (unhide G0) hgk⟩

set_option maxHeartbeats 1600000 in
theorem compsOk (X : Array Value) (p wd ht rs : Int) (n : Nat) (C : Nat → Nat → Int) (hX : Fx X p wd ht rs n C) (t : Bool) (HT : Hid (compsB n C = t)) (w : World) :
    Calls Try.prog 80 #[.agg X] w fun e w' => e = .returned (.bool t) ∧ w.grownBy w' none := by
  have HX := hide hX
  have hs := hX.size
  have h4 := hX.c4
  have h4' : X[4] = .int .i64 n := by rw [Array.getElem?_eq_getElem (by omega)] at h4; simpa using h4
  have HB := hide (heap_alloc_new w (.cells X 71))
  have G0 : Hid (w.grownBy (w.alloc (.cells X 71)) none) := grown_alloc (World.grownBy.refl _ _) _
  have hgs : w.heap.size < (w.alloc (.cells X 71)).heap.size := by simp
  clear hX
  by_cases hn : 1 ≤ (n : Int) ∧ (n : Int) ≤ 4
  · have HN : Hid (decide (1 ≤ (n : Int) ∧ (n : Int) ≤ 4) = true) := decide_eq_true hn
    have HR : Hid (t = (okTo C n && decide (sumHV C n ≤ 10))) := by unfold Hid; rw [← unhide HT, compsB, unhide HN, Bool.true_and]
    clear HT
    have hn4 : n ≤ 4 := by omega
    go_enter Try.func80, Try.ntmps80
    go_wp2_with fail
    refine (inRange n 1 4 _ HN _).mono ?_
    rintro e w1 ⟨rfl, rfl⟩
    go_wp2
    generalize (w.alloc (.cells X 71)) = wx at *
    go_loopw [3, 12] (fun b i wr => ∃ k : Nat, k ≤ n ∧ i = .int .i64 k ∧ b = .int .i64 (sumHV C k) ∧ okTo C k = true ∧ wx.grownBy wr none) (fun _ i _ => n - (intOf i).toNat)
    case atStart => exact ⟨0, Nat.zero_le _, rfl, rfl, rfl, World.grownBy.refl _ _⟩
    case round =>
      obtain ⟨k, hk, rfl, rfl, hok, hgk⟩ := hrel
      by_cases hlt : k < n
      · have hB := (hgk.block w.heap.size hgs (by simp)).trans (unhide HB)
        have h0 := fx_cell (unhide HX) hB k 0 (by omega) (by omega)
        have h1 := fx_cell (unhide HX) hB k 1 (by omega) (by omega)
        have h2 := fx_cell (unhide HX) hB k 2 (by omega) (by omega)
        have h3 := fx_cell (unhide HX) hB k 3 (by omega) (by omega)
        rw [Nat.add_zero] at h0
        have HBK := hide hB
        have HOK := hide hok
        have HSB := hide (sumHV_bounds k hok)
        have HS1 : Hid (okTo C (k + 1) = (okTo C k && (compB (C k) && !idIn C k k))) := rfl
        have HS2 : Hid (sumHV C (k + 1) = sumHV C k + C k 1 * C k 2) := rfl
        have STOP : Hid ((compB (C k) && !idIn C k k) = false → t = false) := fun h => by rw [unhide HR, okTo_false (k := k + 1) (by rw [unhide HS1, h, Bool.and_false]) n hlt]; rfl
        have hsz := hgk.size
        obtain ⟨t1, HT1⟩ : ∃ t1, Hid (compB (C k) = t1) := ⟨_, rfl⟩
        obtain ⟨t2, HT2⟩ : ∃ t2, Hid (idIn C k k = t2) := ⟨_, rfl⟩
        rw [unhide HT1, unhide HT2] at STOP HS1
        have HCK := hide (heap_alloc_new wr (.cells #[.int .i64 (C k 0), .int .i64 (C k 1), .int .i64 (C k 2), .int .i64 (C k 3)] 68))
        have GK : Hid (wr.grownBy (wr.alloc (.cells #[.int .i64 (C k 0), .int .i64 (C k 1), .int .i64 (C k 2), .int .i64 (C k 3)] 68)) none) := grown_alloc (World.grownBy.refl _ _) _
        have hgz : wr.heap.size < (wr.alloc (.cells #[.int .i64 (C k 0), .int .i64 (C k 1), .int .i64 (C k 2), .int .i64 (C k 3)] 68)).heap.size := by simp
        clear hB hok
        go_wp2_with fail
        refine (compOk (C k) t1 HT1 _).mono ?_
        generalize (wr.alloc (.cells #[.int .i64 (C k 0), .int .i64 (C k 1), .int .i64 (C k 2), .int .i64 (C k 3)] 68)) = wy at *
        rintro e w2 ⟨rfl, g2⟩
        have G2 := grown_trans hgk (grown_trans (unhide GK) g2)
        cases t1
        · go_wp2
          go_ret
          exact ⟨ret_bool (by rw [unhide STOP rfl]), grown_trans (unhide G0) G2⟩
        · have hB2 := (G2.block w.heap.size hgs (by simp)).trans (unhide HB)
          go_wp2_with (refine wpList_load_row rfl 71 _ rfl w.heap.size rfl X 71 hB2 _ Try.underlying71 rfl (by rw [hs]; kernel_rfl) ?_)
          refine (idAhead X p wd ht rs n C (unhide HX) k (by omega) t2 HT2 _).mono ?_
          rintro e w3 ⟨rfl, g3⟩
          have G3 := grown_trans G2 g3
          cases t2
          · have hbk := (grown_trans g2 g3).block wr.heap.size hgz (by simp)
            have hbk' := hbk.trans (unhide HCK)
            have c1 : w3.cell? ⟨wr.heap.size, 1, none⟩ = some (.int .i64 (C k 1)) := by rw [cell_of_row w3 _ 1 _ _ (0, 0) hbk']; rfl
            have c2 : w3.cell? ⟨wr.heap.size, 2, none⟩ = some (.int .i64 (C k 2)) := by rw [cell_of_row w3 _ 2 _ _ (0, 0) hbk']; rfl
            obtain ⟨_, hb1, hb2, _⟩ := compB_bounds (unhide HT1)
            have hmul := mul_small hb1 hb2
            have hsb := unhide HSB
            clear hbk hbk' hb1 hb2 hB2 h0 h1 h2 h3
            generalize C k 1 = x at *
            generalize C k 2 = y at *
            have hw1 := i64_in (x * y) (by omega)
            have hw2 := i64_in (sumHV C k + x * y) (by omega)
            generalize hxy : x * y = z at *
            have HXY := hide hxy
            clear hxy
            generalize sumHV C k = sm at *
            go_wp2
            go_roundw
            case rel => exact ⟨k + 1, by omega, by go_num, by rw [unhide HXY, IntWalk.wrap64_in z (by omega), IntWalk.wrap64_in (sm + z) (by omega), unhide HS2], by rw [unhide HS1, unhide HOK]; rfl, G3⟩
            case measure => simp [intOf]; omega
          · go_wp2
            go_ret
            exact ⟨ret_bool (by rw [unhide STOP rfl]), grown_trans (unhide G0) G3⟩
      · have hkn : k = n := by omega
        subst hkn
        have HF : Hid (t = decide (sumHV C k ≤ 10)) := by unfold Hid; rw [unhide HR, hok, Bool.true_and]
        have hsb := sumHV_bounds k hok
        clear hok
        go_wp2
        go_ret
        exact ⟨ret_bool (by rw [unhide HF]), grown_trans (unhide G0) hgk⟩
  · have HN : Hid (decide (1 ≤ (n : Int) ∧ (n : Int) ≤ 4) = false) := decide_eq_false hn
    have HF : Hid (t = false) := by unfold Hid; rw [← unhide HT, compsB, unhide HN, Bool.false_and]
    clear HT hn
    go_enter Try.func80, Try.ntmps80
    go_wp2_with fail
    refine (inRange n 1 4 _ HN _).mono ?_
    rintro e w1 ⟨rfl, rfl⟩
    go_wp2
    go_ret
    exact ⟨ret_bool (by rw [unhide HF]), unhide G0⟩

end Go.Proofs.Ytnjcmlmgjoaeeaa
