/-
  The walk of the law on the order of waves.
-/
import Derived.Test.YtjccngpipfmmbabTabZigSpec2
import Derived.Test.YtjccngpipfmmbabTabDraw2
namespace Go.Proofs.Ytjccngpipfmmbab
open Go.RowKit

theorem made_self (zs : List Int) (h : zs.length = 64) : made (fun p => zs.getD p 0) = zs := by
  apply List.ext_getElem?
  intro i
  by_cases hi : i < 64
  · simp only [made, List.getElem?_map, List.getElem?_range hi, Option.map_some]
    rw [List.getElem?_eq_getElem (show i < zs.length by omega)]
    simp [List.getD_eq_getElem?_getD, List.getElem?_eq_getElem (show i < zs.length by omega)]
  · rw [List.getElem?_eq_none (by rw [made_len]; omega), List.getElem?_eq_none (by omega)]
theorem unzig_zig (zs : List Int) (h : zs.length = 64) : unzigged (zigged zs) = zs := by
  refine Eq.trans (made_congr (fun p hp => ?_)) (made_self zs h)
  rw [zigged, made_at _ _ (zzI_lt p hp), zz_zzI p hp]
theorem zig_unzig (zs : List Int) (h : zs.length = 64) : zigged (unzigged zs) = zs := by
  refine Eq.trans (made_congr (fun p hp => ?_)) (made_self zs h)
  rw [unzigged, made_at _ _ (zz_lt p hp), zzI_zz p hp]
theorem nums_zig {lo hi : Int} {zs : List Int} (h : numsB lo hi zs = true) : numsB lo hi (zigged zs) = true :=
  nums_all (made_len _) (fun j hj => by rw [zigged, made_at _ j hj]; exact (nums_at h).2 _ (zz_lt j hj))
theorem nums_unzig {lo hi : Int} {zs : List Int} (h : numsB lo hi zs = true) : numsB lo hi (unzigged zs) = true :=
  nums_all (made_len _) (fun j hj => by rw [unzigged, made_at _ j hj]; exact (nums_at h).2 _ (zzI_lt j hj))

/-- The places that have been seen behind k steps. -/
def seenC (k : Nat) : List Value := (List.range 64).map (fun p => Value.bool (decide (zzI p < k)))
theorem seen_len (k : Nat) : (seenC k).length = 64 := by simp [seenC]
theorem seen_zero : seenC 0 = List.replicate 64 (.bool false) := by simp only [seenC, Nat.not_lt_zero, decide_false]; rfl
theorem seen_at (k p : Nat) (h : p < 64) : (seenC k)[p]? = some (.bool (decide (zzI p < k))) := by simp [seenC, h]
theorem seen_set (k : Nat) (h : k < 64) : (seenC k).set (zz k) (.bool true) = seenC (k + 1) := by
  apply List.ext_getElem?
  intro i
  by_cases hi : i < 64
  · rw [List.getElem?_set, seen_at k i hi, seen_at (k + 1) i hi, seen_len]
    by_cases e : zz k = i
    · subst e; simp [hi, zzI_zz k h]
    · have hne : zzI i ≠ k := fun e2 => e (by rw [← e2, zz_zzI i hi])
      rw [if_neg e]
      congr 2
      simp; omega
  · rw [List.getElem?_eq_none (by rw [List.length_set, seen_len]; omega), List.getElem?_eq_none (by rw [seen_len]; omega)]
theorem zz_next8 : ∀ k, k < 64 → 0 < k → (zz k : Int) / 8 - (zz (k - 1) : Int) / 8 ≤ 1 ∧ (zz (k - 1) : Int) / 8 - (zz k : Int) / 8 ≤ 1 := by decide
theorem zz_next1 : ∀ k, k < 64 → 0 < k → (zz k : Int) % 8 - (zz (k - 1) : Int) % 8 ≤ 1 ∧ (zz (k - 1) : Int) % 8 - (zz k : Int) % 8 ≤ 1 := by decide

def absI (x : Int) : Int := if x < 0 then -x else x
theorem absI_le {x : Int} (h : x ≤ 1 ∧ -x ≤ 1) : ¬ 1 < absI x := by unfold absI; split <;> omega
theorem lawAbs (x : Int) (hx : -100 ≤ x ∧ x ≤ 100) (w : World) :
    Calls Try.prog 12 #[.int .i64 x] w fun e w' => e = .returned (.int .i64 (absI x)) ∧ w' = w := by
  by_cases h : x < 0
  · go_enter Try.func12, Try.ntmps12
    go_wp2
    go_ret
    exact ⟨ret_int (by unfold absI; rw [if_pos h]), rfl⟩
  · go_enter Try.func12, Try.ntmps12
    go_wp2
    go_ret
    exact ⟨ret_int (by unfold absI; rw [if_neg (by omega)]), rfl⟩

theorem Try.info4 : (Try.prog.info? 4).map (fun i => (i.zero, i.size, i.bytes)) = some (some (.bool false), 1, 1) := by kernel_rfl

set_option maxRecDepth 20000 in
set_option maxHeartbeats 3200000 in
theorem lawZig_in (ao : Option Addr) (n cap : Nat) (cs : List Int) (w : World) (hr : Rd .u8 w ao n cs) (hb : ∀ i, 0 ≤ cs.getD i 0 ∧ cs.getD i 0 ≤ 255) (hn : n ≤ 1048576) :
    Calls Try.prog 3 #[.slice ao n cap] w fun e w' => e = .returned (.bool true) ∧ Below w.heap.size w w' := by
  obtain ⟨i0, hi, hz0, hz1, hz2⟩ := info_parts Try.info4
  have HR := hide hr
  have HB := hide hb
  clear hr hb
  go_enter Try.func3, Try.ntmps3
  go_wp2_with fail
  refine (lawBig5 ao n cap false w (by unfold Hid; simp; omega)).mono ?_
  rintro e w0 ⟨rfl, rfl⟩
  go_wp2_with fail
  refine (drawToZig ao n cap cs w (unhide HR) (unhide HB) hn).mono ?_
  rintro e w1 ⟨so, m, sc, rfl, ⟨xs, hx⟩, hm, g1⟩
  obtain ⟨b, HBB⟩ : ∃ b, Hid (numsB (-32767) 32767 xs = b) := ⟨_, rfl⟩
  obtain ⟨L, HL⟩ : ∃ L, Hid ((if b then zigged xs else []) = L) := ⟨_, rfl⟩
  have hL : L.length ≤ 4194304 := by rw [← unhide HL]; split <;> simp [zigged, made]
  have hzl : zzL.length ≤ 4194304 := by rw [zz_len]; omega
  go_wp2_with fail
  refine (implZigZag w1).mono ?_
  rintro e w2 ⟨zo, zc, rfl, oz, g2⟩
  have X2 := hx.grown g2
  have G2 := grown_trans g1 g2
  go_wp2_with fail
  refine (implToZig so m sc xs w2 X2 b HBB L HL).mono ?_
  rintro e w3 ⟨lo, lc, rfl, ol, g3⟩
  have Z3 := own_grown oz g3
  have X3 := X2.grown g3
  have G3 := grown_trans G2 g3
  go_wp2_with fail
  refine (specZigZag w3).mono ?_
  rintro e w4 ⟨yo, yc, rfl, oy, g4⟩
  have Z4 := own_grown Z3 g4
  have L4 := own_grown ol g4
  have X4 := X3.grown g4
  have G4 := grown_trans G3 g4
  go_wp2_with fail
  refine (sameInts zo yo zzL.length _ _ zzL w4 (own_rd Z4) (own_rd oy) hzl).mono ?_
  rintro e w5 ⟨rfl, g5⟩
  have Z5 := own_grown Z4 g5
  have L5 := own_grown L4 g5
  have X5 := X4.grown g5
  have G5 := grown_trans G4 g5
  go_wp2_with fail
  refine (specToZig so m sc xs w5 X5 b HBB L HL).mono ?_
  rintro e w6 ⟨ko, kc, rfl, ok, g6⟩
  have Z6 := own_grown Z5 g6
  have L6 := own_grown L5 g6
  have X6 := X5.grown g6
  have G6 := grown_trans G5 g6
  go_wp2_with fail
  refine (sameInts lo ko L.length _ _ L w6 (own_rd L6) (own_rd ok) hL).mono ?_
  rintro e w7 ⟨rfl, g7⟩
  have HZ7 := hide (own_rd (own_grown Z6 g7))
  have HL7 := hide (own_rd (own_grown L6 g7))
  have HX7 := hide (X6.grown g7)
  have HG7 := hide (grown_trans G6 g7)
  clear Z6 L6 X6 G6 g7 Z5 L5 X5 G5 Z4 L4 X4 G4 Z3 X3 G3 X2 G2 g1 g2 g3 g4 g5 g6 oz ol oy ok hx
  go_wp2_with (at_make; refine wpList_make_full _ rfl _ _ 29 rfl w7.heap.size 4 i0 (.bool false) 1 Try.underlying29 hi hz0 hz1 .i64 .i64 _ _ 64 rfl rfl rfl rfl (by rw [hz2]; omega) (by unfold maxLen; omega) (Nat.le_refl _) ?_)
  intro w8 hown hgrow
  have HO8 : Hid (w8.ownsRow w7.heap.size 4 1 (.slice (some ⟨w7.heap.size, 0, none⟩) 64 64) 64 (seenC 0)) := by
    have e : (madeCells #[Value.bool false] 64).toList = seenC 0 := by rw [toList_madeCells_one, seen_zero]
    unfold Hid; rw [← e]; exact hown
  have HZ8 := hide ((unhide HZ7).grown hgrow)
  have HL8 := hide ((unhide HL7).grown hgrow)
  have HX8 := hide ((unhide HX7).grown hgrow)
  have HG8 := hide (grown_trans (unhide HG7) hgrow)
  have HZN : Hid (∀ b off, zo = some ⟨b, off, none⟩ → b ≠ w7.heap.size) := fun b off e => Nat.ne_of_lt ((unhide HZ7).lt (by rw [zz_len]; omega) b off e)
  have HLN : Hid (0 < L.length → ∀ b off, lo = some ⟨b, off, none⟩ → b ≠ w7.heap.size) := fun h b off e => Nat.ne_of_lt ((unhide HL7).lt h b off e)
  have HXN : Hid (0 < m → ∀ b off, so = some ⟨b, off, none⟩ → b ≠ w7.heap.size) := fun h b off e => Nat.ne_of_lt ((unhide HX7).lt h b off e)
  have HS8 := hide (unhide HG7).size
  clear hown hgrow HZ7 HL7 HX7 HG7 hi hz0 hz1 hz2
  go_wp2
  go_loopw [7] (fun i wr => ∃ k : Nat, k ≤ 64 ∧ i = .int .i64 k ∧ Hid (wr.ownsRow w7.heap.size 4 1 (.slice (some ⟨w7.heap.size, 0, none⟩) 64 64) 64 (seenC k)) ∧ Hid (w8.grownBy wr (some w7.heap.size))) (fun i _ => 64 - (intOf i).toNat)
  case atStart => exact ⟨0, Nat.zero_le _, rfl, HO8, World.grownBy.refl _ _⟩
  case round =>
    obtain ⟨k, hk, rfl, hM, hgk⟩ := hrel
    by_cases hlt : k < 64
    · obtain ⟨p, hp⟩ : ∃ p, zz k = p := ⟨_, rfl⟩
      have hp64 : p < 64 := by rw [← hp]; exact zz_lt k hlt
      obtain ⟨zb, zoff, rfl, hzc⟩ := (unhide HZ8).2 k (by rw [zz_len]; exact hlt)
      have hzne : zb ≠ w7.heap.size := unhide HZN zb zoff rfl
      have ez : zzL.getD k 0 = (p : Int) := by rw [← hp]; exact zzF_eq k
      rw [ez] at hzc
      have hzc2 := (unhide hgk).cell hzc (fun e => hzne (by simpa using e))
      have hzI : (zzL.length : Int) = 64 := by rw [zz_len]; rfl
      have hpI : (p : Int) < 64 := by omega
      have hp63 : ¬ (63 : Int) < (p : Int) := by omega
      have hsc : wr.cell? ⟨w7.heap.size, p, none⟩ = some (.bool false) := by
        rw [(unhide hM).cellAt p (by omega), seen_at k p hp64, ← hp, zzI_zz k hlt]; simp
      have hfr := (unhide hM).frozenAt p
      have st := (unhide hM).stored p (.bool true)
      have HST : Hid ((wr.setCell ⟨w7.heap.size, p, none⟩ (.bool true)).ownsRow w7.heap.size 4 1 (.slice (some ⟨w7.heap.size, 0, none⟩) 64 64) 64 (seenC (k + 1)) ∧ w8.grownBy (wr.setCell ⟨w7.heap.size, p, none⟩ (.bool true)) (some w7.heap.size)) := by
        rw [← hp, seen_set k hlt] at st
        rw [← hp]
        exact ⟨st.1, grown_trans (unhide hgk) st.2⟩
      have HZS : Hid (∀ j, (wr.setCell ⟨w7.heap.size, p, none⟩ (.bool true)).cell? ⟨zb, zoff + j, none⟩ = wr.cell? ⟨zb, zoff + j, none⟩) := fun j => World.cell?_setCell_far _ _ _ _ (fun e => hzne e.symm)
      clear st ez hzc hM
      obtain ⟨W1, hW1⟩ : ∃ W1, wr.setCell ⟨w7.heap.size, p, none⟩ (.bool true) = W1 := ⟨_, rfl⟩
      rw [hW1] at HST HZS
      have HW1 := hide hW1
      clear hW1
      by_cases hk0 : k = 0
      · subst hk0
        rw [Nat.add_zero] at hzc2
        go_wp2
        rw [unhide HW1]
        go_quiet (fail)
        go_wp2
        go_roundw
        case rel => exact ⟨0 + 1, by omega, by go_num, own_drewN (unhide HST).1 _, grown_drewN (unhide HST).2 _⟩
        case measure => simp [intOf]
      · obtain ⟨j, rfl⟩ : ∃ j, k = j + 1 := ⟨k - 1, by omega⟩
        obtain ⟨p', hp'⟩ : ∃ p', zz j = p' := ⟨_, rfl⟩
        have hp64' : p' < 64 := by rw [← hp']; exact zz_lt j (by omega)
        have hn8 := zz_next8 (j + 1) hlt (by omega)
        have hn1 := zz_next1 (j + 1) hlt (by omega)
        rw [Nat.add_sub_cancel, hp, hp'] at hn8 hn1
        have c1 : W1.cell? ⟨zb, zoff + (j + 1), none⟩ = some (.int .i64 (p : Int)) := (unhide HZS (j + 1)).trans hzc2
        have c2 : W1.cell? ⟨zb, zoff + j, none⟩ = some (.int .i64 (p' : Int)) := by
          rw [unhide HZS]
          obtain ⟨zb2, zoff2, e, hzc3⟩ := (unhide HZ8).2 j (by rw [zz_len]; omega)
          simp only [Option.some.injEq, Addr.mk.injEq, and_true] at e
          obtain ⟨rfl, rfl⟩ := e
          have ez : zzL.getD j 0 = (p' : Int) := by rw [← hp']; exact zzF_eq j
          rw [ez] at hzc3
          exact (unhide hgk).cell hzc3 (fun e => hzne (by simpa using e))
        have hkd : decide ((0 : Int) < (j : Int) + 1) = true := decide_eq_true (by omega)
        have hj64 : (j : Int) < 64 := by omega
        have hj1 := i64_in (j : Int) (by omega)
        have hq1 := i64_in ((p : Int) / 8) (by omega)
        have hq2 := i64_in ((p' : Int) / 8) (by omega)
        have hq3 := i64_in ((p : Int) / 8 - (p' : Int) / 8) (by omega)
        have hq4 := i64_in ((p : Int) % 8) (by omega)
        have hq5 := i64_in ((p' : Int) % 8) (by omega)
        have hq6 := i64_in ((p : Int) % 8 - (p' : Int) % 8) (by omega)
        have hx1 : -100 ≤ (p : Int) / 8 - (p' : Int) / 8 ∧ (p : Int) / 8 - (p' : Int) / 8 ≤ 100 := by omega
        have hx2 : -100 ≤ (p : Int) % 8 - (p' : Int) % 8 ∧ (p : Int) % 8 - (p' : Int) % 8 ≤ 100 := by omega
        have a1 : decide (1 < absI ((p : Int) / 8 - (p' : Int) / 8)) = false := decide_eq_false (absI_le (by omega))
        have a2 : decide (1 < absI ((p : Int) % 8 - (p' : Int) % 8)) = false := decide_eq_false (absI_le (by omega))
        have HX1 := hide hx1
        have HX2 := hide hx2
        have HGK := hide hgk
        clear hp hp' hgk hn8 hn1 hx1 hx2
        go_wp2
        rw [unhide HW1]
        go_quiet ((first | (exact Calls.quiet_of_same (lawAbs ((p : Int) / 8 - (p' : Int) / 8) (unhide HX1) _)) | (exact Calls.quiet_of_same (lawAbs ((p : Int) % 8 - (p' : Int) % 8) (unhide HX2) _)) | (trace_state; fail)))
        go_wp2
        go_roundw
        case rel => exact ⟨j + 1 + 1, by omega, by go_num, own_drewN (unhide HST).1 _, grown_drewN (unhide HST).2 _⟩
        case measure => simp [intOf]; omega
    · obtain rfl : k = 64 := by omega
      have hX := (unhide HX8).beside (unhide hgk) (unhide HXN)
      have hLr := (unhide HL8).beside (unhide hgk) (unhide HLN)
      have hG : w.grownBy wr none := grown_new (unhide HG8) (unhide hgk) (fun g e => by simp at e; have := unhide HS8; omega)
      have HX := hide hX
      have HLR := hide hLr
      have HG := hide hG
      clear hX hLr hG hM hgk
      go_wp2_with fail
      refine (specBlockOk so m sc xs wr (unhide HX) b HBB).mono ?_
      rintro e w9 ⟨rfl, g9⟩
      have HX9 := hide ((unhide HX).grown g9)
      have HL9 := hide ((unhide HLR).grown g9)
      have HG9 := hide (grown_trans (unhide HG) g9)
      clear g9 HX HLR HG
      cases b with
      | false =>
        go_wp2
        go_ret
        exact ⟨rfl, grown_below (unhide HG9)⟩
      | true =>
        have hxl := (nums_at (unhide HBB)).1
        have hm64 : m = 64 := by rw [← (unhide HX9).1]; exact hxl
        subst hm64
        have e : L = zigged xs := (unhide HL).symm
        subst e
        have HXL := hide hxl
        clear hxl
        go_wp2_with fail
        have HF1 : Hid (numsB (-32767) 32767 (zigged xs) = true) := nums_zig (unhide HBB)
        have HF2 : Hid ((if true = true then unzigged (zigged xs) else []) = xs) := by unfold Hid; rw [if_pos rfl]; exact unzig_zig xs (unhide HXL)
        refine (implFromZig lo _ lc (zigged xs) w9 (unhide HL9) true HF1 xs HF2).mono ?_
        rintro e w10 ⟨fo, fc, rfl, of, g10⟩
        have hx64 : xs.length = 64 := unhide HXL
        rw [hx64] at of
        rw [hx64]
        clear hx64
        have HX10 := hide ((unhide HX9).grown g10)
        have HF10 := hide (own_rd of)
        have HG10 := hide (grown_trans (unhide HG9) g10)
        clear of g10 HX9 HG9 HL9 HF1 HF2 HLN HXN HZN
        go_wp2_with fail
        refine (sameInts fo so 64 _ _ xs w10 (unhide HF10) (unhide HX10) (by omega)).mono ?_
        rintro e w11 ⟨rfl, g11⟩
        have HX11 := hide ((unhide HX10).grown g11)
        have HG11 := hide (grown_trans (unhide HG10) g11)
        have HK1 : Hid ((if true = true then unzigged xs else []) = unzigged xs) := by unfold Hid; rw [if_pos rfl]
        clear g11 HX10 HG10 HF10
        go_wp2_with fail
        refine (implFromZig so 64 sc xs w11 (unhide HX11) true HBB (unzigged xs) HK1).mono ?_
        rintro e w12 ⟨uo, uc, rfl, ou, g12⟩
        have HU12 := hide (own_rd ou)
        have HX12 := hide ((unhide HX11).grown g12)
        have HG12 := hide (grown_trans (unhide HG11) g12)
        have HK2 : Hid (numsB (-32767) 32767 (unzigged xs) = true) := nums_unzig (unhide HBB)
        have HK3 : Hid ((if true = true then zigged (unzigged xs) else []) = xs) := by unfold Hid; rw [if_pos rfl]; exact zig_unzig xs (unhide HXL)
        clear ou g12 HX11 HG11 HK1
        go_wp2_with fail
        refine (implToZig uo _ uc (unzigged xs) w12 (unhide HU12) true HK2 xs HK3).mono ?_
        rintro e w13 ⟨to, tc, rfl, ot, g13⟩
        have hx64 : xs.length = 64 := unhide HXL
        rw [hx64] at ot
        rw [hx64]
        clear hx64
        have HX13 := hide ((unhide HX12).grown g13)
        have HT13 := hide (own_rd ot)
        have HG13 := hide (grown_trans (unhide HG12) g13)
        clear ot g13 HX12 HG12 HU12 HK2 HK3
        go_wp2_with fail
        refine (sameInts to so 64 _ _ xs w13 (unhide HT13) (unhide HX13) (by omega)).mono ?_
        rintro e w14 ⟨rfl, g14⟩
        go_wp2
        go_ret
        exact ⟨rfl, grown_below (grown_trans (unhide HG13) g14)⟩

theorem lawZig (ao : Option Addr) (n cap : Nat) (cs : List Int) (w : World) (hr : Rd .u8 w ao n cs) (hb : ∀ i, 0 ≤ cs.getD i 0 ∧ cs.getD i 0 ≤ 255) :
    Calls Try.prog 3 #[.slice ao n cap] w fun e w' => e = .returned (.bool true) ∧ Below w.heap.size w w' := by
  by_cases hn : n ≤ 1048576
  · exact lawZig_in ao n cap cs w hr hb hn
  · go_enter Try.func3, Try.ntmps3
    go_wp2_with fail
    refine (lawBig5 ao n cap true w (by unfold Hid; simp; omega)).mono ?_
    rintro e w0 ⟨rfl, rfl⟩
    go_wp2
    go_ret
    exact ⟨rfl, Below.refl _ _⟩

end Go.Proofs.Ytjccngpipfmmbab
