/-
  Samples that are drawn.
-/
import Derived.Test.YtoeehfjbnbbijabDoorTabDraw
namespace Go.Proofs.YtoeehfjbnbbijabDoor
open Go.RowKit

/-- What a drawing of samples leaves behind k rounds. -/
structure Dr6 (w : World) (tb : Nat) (ao : Option Addr) (n cap : Nat) (zs : List Int) (p : Nat) (wr : World) (v : Value) (k : Nat) : Prop where
  own : ∃ xs : List Int, wr.ownsRow w.heap.size 3 1 v k (xs.map (Value.int .i64))
  cur : ∃ q, q ≤ p + 8 + 6 * k ∧ Cur wr tb ao n cap zs q
  grown : w.grownBy wr (some tb)

set_option maxRecDepth 20000 in
set_option maxHeartbeats 3200000 in
theorem drawSamples (tb : Nat) (ao : Option Addr) (n cap p : Nat) (zs : List Int) (w : World) (h : Cur w tb ao n cap zs p) (hp : p ≤ 1000000) :
    Calls Tryd.prog 16 #[.pointer (some ⟨tb, 0, none⟩)] w fun e w' => ∃ so m sc, e = .returned (.slice so m sc) ∧ Drawn w tb ao n cap zs p w' so m := by
  have hlt := h.lt
  have HAL := hide h.rd.lt
  have HO0 : Hid ((w.alloc (.cells #[] 3)).ownsRow w.heap.size 3 1 (.slice (some ⟨w.heap.size, 0, none⟩) 0 0) 0 []) := World.ownsRow_lit w #[] 0 (Nat.le_refl _) (by unfold maxLen; omega) rfl
  have HC0 := hide (h.grown (World.grownBy_alloc w (.cells #[] 3) none))
  clear h
  go_enter Tryd.func16, Tryd.ntmps16
  go_wp2_with fail
  refine (pick_of tb ao n cap p 256 zs _ (unhide HC0) (by omega) (by omega) (by omega)).mono ?_
  rintro e w1 ⟨x0, q1, rfl, hx00, hx01, hc1, hq1, g1⟩
  have HO1 := hide (own_beneath (unhide HO0) g1 (fun a b e1 e2 => by have := ((unhide HO0).lt a e1).1; simp at e2; omega))
  have HG1 : Hid (w.grownBy w1 (some tb)) := grown_trans (World.grownBy_alloc _ _ _) g1
  have HC1 := hide (hc1.grown (World.grownBy_alloc w1 (.cells #[.int .i64 8, .int .i64 128, .int .i64 2047] 3) none))
  have hs1 : w.heap.size < w1.heap.size := by have := g1.size; simp at this; omega
  clear hc1 g1 HC0 HO0
  go_wp2_with fail
  refine (pick_of tb ao n cap q1 3 zs _ (unhide HC1) (by omega) (by omega) (by omega)).mono ?_
  rintro e w2 ⟨y, q2, rfl, hy0, hy1, hc2, hq2, g2⟩
  obtain ⟨yn, rfl⟩ : ∃ yn : Nat, y = yn := ⟨y.toNat, by omega⟩
  have hL := (g2.block w1.heap.size (by simp) (by simp; omega)).trans (heap_alloc_new w1 _)
  obtain ⟨most, hmost, hm8, hm9⟩ : ∃ u : Int, w2.cell? ⟨w1.heap.size, yn, none⟩ = some (.int .i64 u) ∧ 8 ≤ u ∧ u ≤ 2047 := by
    rw [cell_of_row w2 _ yn _ _ (0, 0) hL]
    have : yn = 0 ∨ yn = 1 ∨ yn = 2 := by omega
    rcases this with rfl | rfl | rfl
    · exact ⟨8, rfl, by omega, by omega⟩
    · exact ⟨128, rfl, by omega, by omega⟩
    · exact ⟨2047, rfl, by omega, by omega⟩
  have HO2 := hide (own_beneath ((unhide HO1).alloc _) g2 (fun a b e1 e2 => by have := ((unhide HO1).lt a e1).1; simp at e2; omega))
  have HG2 : Hid (w.grownBy w2 (some tb)) := grown_trans (grown_trans (unhide HG1) (World.grownBy_alloc _ _ _)) g2
  have HD0 : Hid (Dr6 w tb ao n cap zs p w2 (.slice (some ⟨w.heap.size, 0, none⟩) 0 0) 0) := ⟨⟨[], unhide HO2⟩, ⟨q2, by omega, hc2⟩, unhide HG2⟩
  have e1 := i64_in (2 * most) (by omega)
  have e2 := i64_in (2 * most + 1) (by omega)
  clear hc2 g2 HC1 HO1 HG1 hL HO2 HG2
  go_wp2
  clear hmost
  go_loopw [3, 6] (fun o i wr => ∃ k : Nat, k ≤ 64 ∧ i = .int .i64 k ∧ Hid (Dr6 w tb ao n cap zs p wr o k)) (fun _ i _ => 64 - (intOf i).toNat)
  case atStart => exact ⟨0, Nat.zero_le _, rfl, HD0⟩
  case round =>
    obtain ⟨k, hk, rfl, hM⟩ := hrel
    obtain ⟨⟨xs, hown⟩, ⟨q, hq, hcur⟩, hgr⟩ := unhide hM
    obtain ⟨so2, sc2, rfl⟩ := own_form hown
    have HO := hide hown
    have HC := hide hcur
    have HG := hide hgr
    have HSL : Hid (∀ g, (Value.slice so2 k sc2).ownBlock = some g → w.heap.size ≤ g) := fun g e => (hown.lt g e).1
    clear hM hown hcur hgr
    have HEND : Hid (∀ (wx wy : World) (v' : Value) (ys : List Int) (q' : Nat), q' ≤ q + 6 → Cur wx tb ao n cap zs q' → wx.grownBy wy (Value.slice so2 k sc2).ownBlock → w.grownBy wy (some tb) → wy.ownsRow w.heap.size 3 1 v' (k + 1) (ys.map (Value.int .i64)) → Dr6 w tb ao n cap zs p wy v' (k + 1)) := by
      intro wx wy v' ys q' h1 h2 h3 h4 h5
      refine ⟨⟨ys, h5⟩, ⟨q', by omega, h2.beside h3 (fun g e => ?_)⟩, h4⟩
      have hg := unhide HSL g e
      exact ⟨by omega, fun hn b off e2 => by have := unhide HAL hn b off e2; omega⟩
    have HOW : Hid (∀ wx, wr.grownBy wx (some tb) → wx.ownsRow w.heap.size 3 1 (.slice so2 k sc2) k (xs.map (Value.int .i64))) := fun wx hg => own_beneath (unhide HO) hg (fun g g' e1 e2 => by have := unhide HSL g e1; simp at e2; omega)
    by_cases hlt64 : k < 64
    · go_wp2_with fail
      refine (pick_of tb ao n cap q 9 zs wr (unhide HC) (by omega) (by omega) (by omega)).mono ?_
      rintro e w3 ⟨x, q3, rfl, hx0, hx1, hc3, hq3, g3⟩
      have HC3 := hide hc3
      have HG3 := hide g3
      clear hc3 g3 HC
      go_wp2_with fail
      refine (pick_of tb ao n cap q3 5 zs w3 (unhide HC3) (by omega) (by omega) (by omega)).mono ?_
      rintro e w4 ⟨s, q4, rfl, hs0, hs1, hc4, hq4, g4⟩
      have HC4 := hide hc4
      have HG4 := hide (grown_trans (unhide HG3) g4)
      clear hc4 g4 HC3 HG3
      by_cases hsz : s = 0
      · subst hsz
        go_wp2_with fail
        refine (pick_of tb ao n cap q4 (2 * most + 1) zs w4 (unhide HC4) (by omega) (by omega) (by omega)).mono ?_
        rintro e w5 ⟨z, q5, rfl, hz0, hz1, hc5, hq5, g5⟩
        have HC5 := hide hc5
        have HG5 := hide (grown_trans (unhide HG4) g5)
        clear hc5 g5 HC4 HG4
        go_wp2_with fail
        refine (specClip (z - most) (-2048) 2047 (by omega) w5).mono ?_
        rintro e w6 ⟨rfl, rfl⟩
        go_wp2_with (at_builtin; refine append_intR rfl _ _ rfl w (some tb) _ k xs rfl (unhide HOW _ (unhide HG5)) _ rfl (by omega) (grown_trans (unhide HG) (unhide HG5)) ?_; intro v' w' ho hg hg2)
        go_roundw
        case rel => exact ⟨k + 1, by omega, by go_num, unhide HEND _ _ _ _ q5 (by omega) (unhide HC5) hg2 hg ho⟩
        case measure => simp [intOf]; omega
      · by_cases hso : s = 1
        · subst hso
          have hkm : (k : Int).tmod 8 = (k : Int) % 8 := Int.tmod_eq_emod_of_nonneg (by omega)
          have e3 := i64_in ((k : Int) % 8) (by omega)
          have e4 := i64_in ((k : Int) % 8 * 3) (by omega)
          have e5 := i64_in (x0 - 128 + (k : Int) % 8 * 3) (by omega)
          go_wp2_with fail
          refine (specClip (x0 - 128 + (k : Int) % 8 * 3) (-2048) 2047 (by omega) w4).mono ?_
          rintro e w6 ⟨rfl, rfl⟩
          go_wp2_with (at_builtin; refine append_intR rfl _ _ rfl w (some tb) _ k xs rfl (unhide HOW _ (unhide HG4)) _ rfl (by omega) (grown_trans (unhide HG) (unhide HG4)) ?_; intro v' w' ho hg hg2)
          go_roundw
          case rel => exact ⟨k + 1, by omega, by go_num, unhide HEND _ _ _ _ q4 (by omega) (unhide HC4) hg2 hg ho⟩
          case measure => simp [intOf]; omega
        · go_wp2_with fail
          refine (specClip (x0 - 128 + x - 4) (-2048) 2047 (by omega) w4).mono ?_
          rintro e w6 ⟨rfl, rfl⟩
          go_wp2_with (at_builtin; refine append_intR rfl _ _ rfl w (some tb) _ k xs rfl (unhide HOW _ (unhide HG4)) _ rfl (by omega) (grown_trans (unhide HG) (unhide HG4)) ?_; intro v' w' ho hg hg2)
          go_roundw
          case rel => exact ⟨k + 1, by omega, by go_num, unhide HEND _ _ _ _ q4 (by omega) (unhide HC4) hg2 hg ho⟩
          case measure => simp [intOf]; omega
    · obtain rfl : k = 64 := by omega
      obtain ⟨g, rfl, hg0, hg1⟩ := own_at (unhide HO) (by omega)
      have hcap := own_cap (unhide HO)
      clear HSL HEND HOW e1 e2
      go_wp2_with fail
      refine (pick_of tb ao n cap q 20 zs wr (unhide HC) (by omega) (by omega) (by omega)).mono ?_
      rintro e w3 ⟨x, q3, rfl, hx0, hx1, hc3, hq3, g3⟩
      have HC3 := hide hc3
      have HG3 := hide (grown_trans (unhide HG) g3)
      have HO3 := hide (own_beneath (unhide HO) g3 (fun a b e1 e2 => by have := ((unhide HO).lt a e1).1; simp at e2; omega))
      have s3 := g3.size
      clear hc3 g3 HC HG HO
      have HEND : Hid (∀ (w' : World) (m off : Nat) (ys : List Int) (q' : Nat), q' ≤ q3 + 140 → m ≤ 65 → Rd .i64 w' (some ⟨g, off, none⟩) m ys → Cur w' tb ao n cap zs q' → w.grownBy w' (some tb) → Drawn w tb ao n cap zs p w' (some ⟨g, off, none⟩) m) := by
        intro w' m off ys q' h1 h2 h3 h4 h5
        exact ⟨⟨ys, h3⟩, h2, fun b off e => by simp at e; omega, ⟨q', by omega, h4⟩, h5⟩
      by_cases h0 : x = 0
      · subst h0
        go_wp2_with fail
        refine (pick_of tb ao n cap q3 64 zs w3 (unhide HC3) (by omega) (by omega) (by omega)).mono ?_
        rintro e w4 ⟨y, q4, rfl, hy0, hy1, hc4, hq4, g4⟩
        obtain ⟨yn, rfl⟩ : ∃ yn : Nat, y = yn := ⟨y.toNat, by omega⟩
        have HO4 := hide (own_beneath (unhide HO3) g4 (fun a b e1 e2 => by have := ((unhide HO3).lt a e1).1; simp at e2; omega))
        have HC4 := hide hc4
        have HG4 := hide (grown_trans (unhide HG3) g4)
        have s4 := g4.size
        clear hc4 g4 HC3 HG3 HO3
        go_wp2_with fail
        refine (odd_of tb ao n cap q4 zs w4 (unhide HC4) (by omega)).mono ?_
        rintro e w5 ⟨o, q5, rfl, hc5, hq5, g5⟩
        have HO5 := hide (own_beneath (unhide HO4) g5 (fun a b e1 e2 => by have := ((unhide HO4).lt a e1).1; simp at e2; omega))
        have HC5 := hide (hc5.grown (World.grownBy_alloc w5 (.cells #[.int .i64 2048, .int .i64 (-2049), .int .i64 o] 3) none))
        have HG5 := hide (grown_trans (unhide HG4) g5)
        have s5 := g5.size
        have hg5 : g < w5.heap.size := by omega
        clear hc5 g5 HC4 HG4 HO4
        go_wp2_with fail
        refine (pick_of tb ao n cap q5 3 zs _ (unhide HC5) (by omega) (by omega) (by omega)).mono ?_
        rintro e w6 ⟨z, q6, rfl, hz0, hz1, hc6, hq6, g6⟩
        obtain ⟨zn, rfl⟩ : ∃ zn : Nat, z = zn := ⟨z.toNat, by omega⟩
        have hL := (g6.block w5.heap.size (by simp) (by simp; omega)).trans (heap_alloc_new w5 _)
        obtain ⟨u, hu⟩ : ∃ u : Int, w6.cell? ⟨w5.heap.size, zn, none⟩ = some (.int .i64 u) := by
          rw [cell_of_row w6 _ zn _ _ (0, 0) hL]
          have : zn = 0 ∨ zn = 1 ∨ zn = 2 := by omega
          rcases this with rfl | rfl | rfl
          · exact ⟨_, rfl⟩
          · exact ⟨_, rfl⟩
          · exact ⟨_, rfl⟩
        have ho6 := own_beneath ((unhide HO5).alloc _) g6 (fun a b e1 e2 => by have := ((unhide HO5).lt a e1).1; simp at e2; omega)
        have hold : ∃ v, w6.cell? ⟨g, yn, none⟩ = some v := by rw [ho6.cellAt yn (by omega)]; exact ⟨_, List.getElem?_eq_getElem (by rw [ho6.1]; omega)⟩
        obtain ⟨v, hv⟩ := hold
        have hfr := ho6.frozenAt yn
        have st := ho6.stored yn (.int .i64 u)
        have HST : Hid (Drawn w tb ao n cap zs p (w6.setCell ⟨g, yn, none⟩ (.int .i64 u)) (some ⟨g, 0, none⟩) 64) := by
          have e : (xs.map (Value.int .i64)).set yn (.int .i64 u) = (xs.set yn u).map (Value.int .i64) := by rw [List.map_set]
          rw [e] at st
          have g7 := grown_set w6 g yn (.int .i64 u)
          refine unhide HEND _ 64 0 _ q6 (by omega) (by omega) (own_rd st.1) (hc6.beside g7 (fun a e => ?_)) (grown_newR (grown_trans (grown_trans (unhide HG5) (World.grownBy_alloc _ _ _)) g6) g7 (fun a e => by simp at e; omega))
          simp at e
          exact ⟨by omega, fun hn b off e2 => by have := unhide HAL hn b off e2; omega⟩
        clear hL ho6 st hc6 g6 HO5 HC5 HG5 HEND
        go_wp2
        go_ret
        exact ⟨_, _, _, rfl, unhide HST⟩
      · by_cases h1 : x = 1
        · subst h1
          have hne : ¬ sc2 = 1 := by omega
          have hcI : (1 : Int) ≤ (sc2 : Int) := by omega
          have HRD : Hid (Rd .i64 w3 (some ⟨g, 1, none⟩) 63 (xs.drop 1)) := by
            have hr := own_rd (unhide HO3)
            refine ⟨by rw [List.length_drop, hr.1], fun i hi => ⟨g, 1, rfl, ?_⟩⟩
            obtain ⟨b', o', e, hc⟩ := hr.2 (1 + i) (by omega)
            simp only [Option.some.injEq, Addr.mk.injEq, and_true] at e
            obtain ⟨rfl, rfl⟩ := e
            rw [Nat.zero_add] at hc
            rw [hc]
            have e2 : (xs.drop 1).getD i 0 = xs.getD (1 + i) 0 := by simp [List.getD_eq_getElem?_getD, Nat.add_comm]
            rw [e2]
          go_wp2
          go_ret
          exact ⟨_, _, _, rfl, unhide HEND _ 63 1 _ q3 (by omega) (by omega) (unhide HRD) (unhide HC3) (unhide HG3)⟩
        · by_cases h2 : x = 2
          · subst h2
            have HD3 : Hid (∃ (xs : List Int) (q' : Nat), q' ≤ q3 + 2 * 0 ∧ w3.ownsRow w.heap.size 3 1 (.slice (some ⟨g, 0, none⟩) 64 sc2) 64 (xs.map (Value.int .i64)) ∧ Cur w3 tb ao n cap zs q' ∧ w.grownBy w3 (some tb)) := ⟨xs, q3, by omega, unhide HO3, unhide HC3, unhide HG3⟩
            clear HO3 HC3 HG3
            have HBES : Hid (∀ (wx : World) (j : Nat) (v : Value) (q' : Nat), Cur wx tb ao n cap zs q' → Cur (wx.setCell ⟨g, j, none⟩ v) tb ao n cap zs q') := by
              intro wx j v q' hc
              refine hc.beside (grown_set wx g j v) (fun a e => ?_)
              simp at e
              exact ⟨by omega, fun hn b off e2 => by have := unhide HAL hn b off e2; omega⟩
            go_wp2
            go_loopw [8] (fun i wr => ∃ k : Nat, k ≤ 64 ∧ i = .int .i64 k ∧ Hid (∃ (xs : List Int) (q' : Nat), q' ≤ q3 + 2 * k ∧ wr.ownsRow w.heap.size 3 1 (.slice (some ⟨g, 0, none⟩) 64 sc2) 64 (xs.map (Value.int .i64)) ∧ Cur wr tb ao n cap zs q' ∧ w.grownBy wr (some tb))) (fun i _ => 64 - (intOf i).toNat)
            case atStart => exact ⟨0, Nat.zero_le _, rfl, HD3⟩
            case round =>
              obtain ⟨k, hk, rfl, hM⟩ := hrel
              obtain ⟨ys, q4, hq4, ho4, hc4, hg4⟩ := unhide hM
              clear hM
              by_cases hlk : k < 64
              · obtain ⟨v0, hv0⟩ : ∃ v, wr.cell? ⟨g, k, none⟩ = some v := by rw [ho4.cellAt k (by omega)]; exact ⟨_, List.getElem?_eq_getElem (by rw [ho4.1]; omega)⟩
                have hfr := ho4.frozenAt k
                have st := ho4.stored k (.int .i64 (-2048))
                have hc5 := unhide HBES wr k (.int .i64 (-2048)) q4 hc4
                have g5 := grown_set wr g k (.int .i64 (-2048))
                obtain ⟨W1, hW1⟩ : ∃ W1, wr.setCell ⟨g, k, none⟩ (.int .i64 (-2048)) = W1 := ⟨_, rfl⟩
                rw [hW1] at st hc5 g5
                rw [← List.map_set] at st
                have HW1 := hide hW1
                have HC5 := hide hc5
                have HO5 := hide st.1
                have HG5 : Hid (w.grownBy W1 (some tb)) := grown_newR hg4 g5 (fun a e => by simp at e; omega)
                clear hW1 st hc5 g5 ho4 hc4 hg4
                go_wp2_with fail
                rw [unhide HW1]
                refine (once_of tb ao n cap q4 2 zs W1 (unhide HC5) (by omega) (by omega) (by omega)).mono ?_
                rintro e w6 ⟨t, q6, rfl, hc6, hq6, g6⟩
                have ho6 := own_beneath (unhide HO5) g6 (fun a b e1 e2 => by have := ((unhide HO5).lt a e1).1; simp at e2; omega)
                have hg6 := grown_trans (unhide HG5) g6
                clear g6 HC5 HO5 HG5 HW1 hfr hv0
                cases t with
                | true =>
                  obtain ⟨v0, hv0⟩ : ∃ v, w6.cell? ⟨g, k, none⟩ = some v := by rw [ho6.cellAt k (by omega)]; exact ⟨_, List.getElem?_eq_getElem (by rw [ho6.1]; omega)⟩
                  have hfr := ho6.frozenAt k
                  have st := ho6.stored k (.int .i64 2047)
                  rw [← List.map_set] at st
                  have HEN : Hid (∃ (xs : List Int) (q' : Nat), q' ≤ q3 + 2 * (k + 1) ∧ (w6.setCell ⟨g, k, none⟩ (.int .i64 2047)).ownsRow w.heap.size 3 1 (.slice (some ⟨g, 0, none⟩) 64 sc2) 64 (xs.map (Value.int .i64)) ∧ Cur (w6.setCell ⟨g, k, none⟩ (.int .i64 2047)) tb ao n cap zs q' ∧ w.grownBy (w6.setCell ⟨g, k, none⟩ (.int .i64 2047)) (some tb)) :=
                    ⟨_, q6, by omega, st.1, unhide HBES w6 k _ q6 hc6, grown_newR hg6 (grown_set w6 g k _) (fun a e => by simp at e; omega)⟩
                  clear st ho6 hc6 hg6
                  go_wp2
                  go_roundw
                  case rel => exact ⟨k + 1, by omega, by go_num, unhide HEN⟩
                  case measure => simp [intOf]; omega
                | false =>
                  have HEN : Hid (∃ (xs : List Int) (q' : Nat), q' ≤ q3 + 2 * (k + 1) ∧ w6.ownsRow w.heap.size 3 1 (.slice (some ⟨g, 0, none⟩) 64 sc2) 64 (xs.map (Value.int .i64)) ∧ Cur w6 tb ao n cap zs q' ∧ w.grownBy w6 (some tb)) :=
                    ⟨_, q6, by omega, ho6, hc6, hg6⟩
                  clear ho6 hc6 hg6
                  go_wp2
                  go_roundw
                  case rel => exact ⟨k + 1, by omega, by go_num, unhide HEN⟩
                  case measure => simp [intOf]; omega
              · obtain rfl : k = 64 := by omega
                have HO4 := hide ho4
                have HC4 := hide hc4
                have HG4 := hide hg4
                clear ho4 hc4 hg4
                go_wp2
                go_ret
                exact ⟨_, _, _, rfl, unhide HEND _ 64 0 _ q4 (by omega) (by omega) (own_rd (unhide HO4)) (unhide HC4) (unhide HG4)⟩
          · go_wp2
            go_ret
            exact ⟨_, _, _, rfl, unhide HEND _ 64 0 _ q3 (by omega) (by omega) (own_rd (unhide HO3)) (unhide HC3) (unhide HG3)⟩

end Go.Proofs.YtoeehfjbnbbijabDoor
