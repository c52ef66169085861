/-
  The walk of the law on waves and back.
-/
import Derived.Test.YtoeehfjbnbbijabDoorWaveSpec2
import Derived.Test.YtoeehfjbnbbijabDoorWaveDraw
import Derived.Test.YtoeehfjbnbbijabDoorTabDraw2
namespace Go.Proofs.YtoeehfjbnbbijabDoor
open Go.RowKit

theorem drawForward (ao : Option Addr) (n cap : Nat) (cs : List Int) (w : World) (hr : Rd .u8 w ao n cs) (hb : ∀ i, 0 ≤ cs.getD i 0 ∧ cs.getD i 0 ≤ 255) (hn : n ≤ 1048576) :
    Calls Tryd.prog 5 #[.slice ao n cap] w fun e w' => ∃ so m sc, e = .returned (.slice so m sc) ∧ (∃ xs, Rd .i64 w' so m xs) ∧ m ≤ 65 ∧ w.grownBy w' none := by
  have HR := hide hr
  have HB := hide hb
  clear hr hb
  go_enter Tryd.func5, Tryd.ntmps5
  go_wp2_with fail
  refine (open_of ao n cap cs w (unhide HR) (unhide HB) hn).mono ?_
  rintro e w1 ⟨rfl, hc, hg⟩
  go_wp2_with fail
  refine (drawSamples w.heap.size ao n cap 0 cs w1 hc (by omega)).mono ?_
  rintro e w2 ⟨so, m, sc, rfl, hd⟩
  go_wp2
  go_ret
  exact ⟨_, _, _, rfl, hd.rd, hd.len, grown_new hg hd.grown (fun g e => by simp at e; omega)⟩

def absW (x : Int) : Int := if x < 0 then -x else x
theorem lawAbsW (x : Int) (hx : -100000 ≤ x ∧ x ≤ 100000) (w : World) :
    Calls Tryd.prog 14 #[.int .i64 x] w fun e w' => e = .returned (.int .i64 (absW x)) ∧ w' = w := by
  by_cases h : x < 0
  · go_enter Tryd.func14, Tryd.ntmps14
    go_wp2
    go_ret
    exact ⟨ret_int (by unfold absW; rw [if_pos h]), rfl⟩
  · go_enter Tryd.func14, Tryd.ntmps14
    go_wp2
    go_ret
    exact ⟨ret_int (by unfold absW; rw [if_neg (by omega)]), rfl⟩

theorem fwdL_at (xs : List Int) (k : Nat) (hk : k < 64) : (fwdL xs).getD k 0 = fwd (fun k => xs.getD k 0) k := made_at _ k hk
theorem nums_fwd {xs : List Int} (h : numsB (-2048) 2047 xs = true) : numsB (-32767) 32767 (fwdL xs) = true :=
  nums_all (made_len _) (fun j hj => by rw [fwdL_at xs j hj]; exact fwd_within (fun k hk => by have := (nums_at h).2 k hk; omega) j hj)
theorem inv_fwd {xs : List Int} (h : numsB (-2048) 2047 xs = true) (k : Nat) (hk : k < 64) : -16 ≤ (invL (fwdL xs)).getD k 0 - xs.getD k 0 ∧ (invL (fwdL xs)).getD k 0 - xs.getD k 0 ≤ 16 := by
  have e : (invL (fwdL xs)).getD k 0 = inv (fwd (fun k => xs.getD k 0)) k := by
    rw [invL, made_at _ k hk]
    unfold inv
    rw [invS_congr (z' := fwd (fun k => xs.getD k 0)) (fun j hj => fwdL_at xs j hj)]
  rw [e]
  exact waves_back (z := fun k => xs.getD k 0) (fun j hj => (nums_at h).2 j hj) k hk

/-- A row whose first k numbers are c, noughts behind. -/
def flatC (c : Int) (k : Nat) : List Int := (List.replicate k c) ++ List.replicate (64 - k) 0
theorem flat_len (c : Int) (k : Nat) (h : k ≤ 64) : (flatC c k).length = 64 := by simp [flatC]; omega
theorem flat_set (c : Int) (k : Nat) (h : k < 64) : (flatC c k).set k c = flatC c (k + 1) := by
  unfold flatC
  rw [List.set_append_right _ _ (by simp)]
  obtain ⟨j, hj⟩ : ∃ j, 64 - k = j + 1 := ⟨64 - k - 1, by omega⟩
  rw [hj, show 64 - (k + 1) = j by omega, List.length_replicate, Nat.sub_self, List.replicate_succ, List.set_cons_zero, List.replicate_succ']
  simp
theorem flat_all (c : Int) : flatC c 64 = List.replicate 64 c := by simp [flatC]
theorem rep_at (c : Int) (N j : Nat) (h : j < N) : (List.replicate N c).getD j 0 = c := by rw [List.getD_eq_getElem?_getD, List.getElem?_replicate, if_pos h]; rfl
theorem flat_nums {c : Int} (h : -2048 ≤ c ∧ c ≤ 2047) : numsB (-2048) 2047 (List.replicate 64 c) = true :=
  nums_all (by simp) (fun j hj => by
    rw [rep_at c 64 j hj]; exact h)
theorem flat_waves (c : Int) (k : Nat) (hk : k < 64) (h0 : 0 < k) : (fwdL (List.replicate 64 c)).getD k 0 = 0 := by
  rw [fwdL_at _ k hk]
  have e : fwd (fun k => (List.replicate 64 c).getD k 0) k = fwd (fun _ => c) k := by
    unfold fwd
    rw [fwdS_congr (z' := fun _ => c) (fun j hj => rep_at c 64 j hj)]
  rw [e]
  exact flat_fwd c k hk h0

set_option maxRecDepth 20000 in
set_option maxHeartbeats 3200000 in
theorem lawWavesBack_in (ao : Option Addr) (n cap : Nat) (cs : List Int) (w : World) (hr : Rd .u8 w ao n cs) (hb : ∀ i, 0 ≤ cs.getD i 0 ∧ cs.getD i 0 ≤ 255) (hq : Qw w) (hn : n ≤ 1048576) :
    Calls Tryd.prog 3 #[.slice ao n cap] w fun e w' => e = .returned (.bool true) ∧ Below w.heap.size w w' := by
  obtain ⟨i0, hi, hz0, hz1, hz2⟩ := info_parts Tryd.info3
  have HR := hide hr
  have HB := hide hb
  have HQ := hide hq
  clear hr hb hq
  go_enter Tryd.func3, Tryd.ntmps3
  go_wp2_with fail
  refine (lawBig5 ao n cap false w (by unfold Hid; simp; omega)).mono ?_
  rintro e w0 ⟨rfl, rfl⟩
  go_wp2_with fail
  refine (drawForward ao n cap cs w (unhide HR) (unhide HB) hn).mono ?_
  rintro e w1 ⟨so, m, sc, rfl, ⟨xs, hx⟩, hm, g1⟩
  obtain ⟨b, HBB⟩ : ∃ b, Hid (numsB (-2048) 2047 xs = b) := ⟨_, rfl⟩
  obtain ⟨L, HL⟩ : ∃ L, Hid ((if b then fwdL xs else []) = L) := ⟨_, rfl⟩
  have hL : L.length ≤ 4194304 := by rw [← unhide HL]; split <;> simp [fwdL, made]
  have hzl : wvL.length ≤ 4194304 := by rw [wv_len]; omega
  go_wp2_with fail
  refine (implForward so m sc xs w1 hx ((unhide HQ).grown g1) b HBB L HL).mono ?_
  rintro e w2 ⟨lo, lc, rfl, ol, g2⟩
  have X2 := hx.grown g2
  have G2 := grown_trans g1 g2
  go_wp2_with fail
  refine (specForward so m sc xs w2 X2 b HBB L HL).mono ?_
  rintro e w3 ⟨ko, kc, rfl, ok, g3⟩
  have X3 := X2.grown g3
  have L3 := own_grown ol g3
  have G3 := grown_trans G2 g3
  go_wp2_with fail
  refine (sameInts lo ko L.length _ _ L w3 (own_rd L3) (own_rd ok) hL).mono ?_
  rintro e w4 ⟨rfl, g4⟩
  have X4 := X3.grown g4
  have L4 := own_grown L3 g4
  have G4 := grown_trans G3 g4
  go_wp2_with fail
  refine (implBasis w4 ((unhide HQ).grown G4)).mono ?_
  rintro e w5 ⟨zo, zc, rfl, oz, g5⟩
  have X5 := X4.grown g5
  have L5 := own_grown L4 g5
  have G5 := grown_trans G4 g5
  go_wp2_with fail
  refine (specBasis w5).mono ?_
  rintro e w6 ⟨yo, yc, rfl, oy, g6⟩
  have X6 := X5.grown g6
  have L6 := own_grown L5 g6
  have Z6 := own_grown oz g6
  have G6 := grown_trans G5 g6
  go_wp2_with fail
  refine (sameInts zo yo wvL.length _ _ wvL w6 (own_rd Z6) (own_rd oy) hzl).mono ?_
  rintro e w7 ⟨rfl, g7⟩
  have X7 := X6.grown g7
  have L7 := own_grown L6 g7
  have G7 := grown_trans G6 g7
  clear X6 L6 Z6 G6 X5 L5 G5 X4 L4 G4 X3 L3 G3 X2 G2 g1 g2 g3 g4 g5 g6 g7 ol ok oz oy hx
  go_wp2_with fail
  refine (specSamplesOk so m sc xs w7 X7 b HBB).mono ?_
  rintro e w8 ⟨rfl, g8⟩
  have HX8 := hide (X7.grown g8)
  have HL8 := hide (own_rd (own_grown L7 g8))
  have HG8 := hide (grown_trans G7 g8)
  clear X7 L7 G7 g8
  cases b with
  | false =>
    have e : L = [] := (unhide HL).symm
    subst e
    go_wp2
    go_ret
    exact ⟨rfl, grown_below (unhide HG8)⟩
  | true =>
    have hxl := (nums_at (unhide HBB)).1
    have hm64 : m = 64 := by rw [← (unhide HX8).1]; exact hxl
    subst hm64
    have e : L = fwdL xs := (unhide HL).symm
    subst e
    have HF1 : Hid (numsB (-32767) 32767 (fwdL xs) = true) := nums_fwd (unhide HBB)
    have HF2 : Hid ((if true = true then invL (fwdL xs) else []) = invL (fwdL xs)) := by unfold Hid; rw [if_pos rfl]
    have hil : (invL (fwdL xs)).length = 64 := made_len _
    have HIL := hide hil
    clear hxl hil HL hL
    go_wp2_with fail
    refine (implInverse lo _ lc (fwdL xs) w8 (unhide HL8) ((unhide HQ).grown (unhide HG8)) true HF1 (invL (fwdL xs)) HF2).mono ?_
    rintro e w9 ⟨io, ic, rfl, oi, g9⟩
    have HX9 := hide ((unhide HX8).grown g9)
    have HL9 := hide ((unhide HL8).grown g9)
    have HG9 := hide (grown_trans (unhide HG8) g9)
    clear g9 HX8 HL8 HG8
    go_wp2_with fail
    refine (specInverse lo _ lc (fwdL xs) w9 (unhide HL9) true HF1 (invL (fwdL xs)) HF2).mono ?_
    rintro e w10 ⟨jo, jc, rfl, oj, g10⟩
    have HX10 := hide ((unhide HX9).grown g10)
    have HI10 := hide (own_rd (own_grown oi g10))
    have HJ10 := hide (own_rd oj)
    have HG10 := hide (grown_trans (unhide HG9) g10)
    clear g10 HX9 HL9 HG9 oi oj HF1 HF2
    go_wp2_with fail
    refine (sameInts io jo (invL (fwdL xs)).length _ _ (invL (fwdL xs)) w10 (unhide HI10) (unhide HJ10) (by rw [unhide HIL]; omega)).mono ?_
    rintro e w11 ⟨rfl, g11⟩
    have HX11 := hide ((unhide HX10).grown g11)
    have HI11 := hide ((unhide HI10).grown g11)
    have HG11 := hide (grown_trans (unhide HG10) g11)
    clear g11 HX10 HI10 HJ10 HG10
    have hilI : ((invL (fwdL xs)).length : Int) = 64 := by rw [unhide HIL]; rfl
    have HNR : Hid (∀ k, k < 64 → -16 ≤ (invL (fwdL xs)).getD k 0 - xs.getD k 0 ∧ (invL (fwdL xs)).getD k 0 - xs.getD k 0 ≤ 16) := fun k hk => inv_fwd (unhide HBB) k hk
    have HXB : Hid (∀ k, k < 64 → -2048 ≤ xs.getD k 0 ∧ xs.getD k 0 ≤ 2047) := (nums_at (unhide HBB)).2
    go_wp2
    go_loopw [6] (fun i wr => ∃ k : Nat, k ≤ 64 ∧ i = .int .i64 k ∧ Hid (w11.grownBy wr none)) (fun i _ => 64 - (intOf i).toNat)
    case atStart => exact ⟨0, Nat.zero_le _, rfl, World.grownBy.refl _ _⟩
    case round =>
      obtain ⟨k, hk, rfl, hgk⟩ := hrel
      by_cases hlt : k < 64
      · obtain ⟨ab, aoff, rfl, hac⟩ := (unhide HX11).2 k hlt
        obtain ⟨ib, ioff, rfl, hic⟩ := (unhide HI11).2 k (by rw [unhide HIL]; exact hlt)
        have ca := (unhide hgk).cell hac (by simp)
        have ci := (unhide hgk).cell hic (by simp)
        have hnr := unhide HNR k hlt
        have hxb := unhide HXB k hlt
        clear hac hic
        generalize xs.getD k 0 = A at *
        generalize (invL (fwdL xs)).getD k 0 = I at *
        have e1 := i64_in (I - A) (by omega)
        have hx1 : -100000 ≤ I - A ∧ I - A ≤ 100000 := by omega
        have a1 : decide (16 < absW (I - A)) = false := decide_eq_false (by unfold absW; split <;> omega)
        have HX1 := hide hx1
        have hkI : (k : Int) < 64 := by omega
        clear hx1 hnr hxb
        go_wp2
        go_quiet ((first | (exact Calls.quiet_of_same (lawAbsW (I - A) (unhide HX1) _)) | (trace_state; fail)))
        go_wp2
        go_roundw
        case rel => exact ⟨k + 1, by omega, by go_num, grown_drewN (unhide hgk) _⟩
        case measure => simp [intOf]; omega
      · obtain rfl : k = 64 := by omega
        have HG12 := hide (grown_trans (unhide HG11) (unhide hgk))
        have HX12 := hide ((unhide HX11).grown (unhide hgk))
        clear hgk HX11 HI11 HG11 HNR
        go_wp2_with (at_make; refine wpList_make_full _ rfl _ _ 24 rfl wr.heap.size 3 i0 (.int .i64 0) 1 Tryd.underlying24 hi hz0 hz1 .i64 .i64 _ _ 64 rfl rfl rfl rfl (by rw [hz2]; omega) (by unfold maxLen; omega) (Nat.le_refl _) ?_)
        intro w13 hown hgrow
        have hc := unhide HXB 0 (by omega)
        obtain ⟨c, HC⟩ : ∃ c, Hid (xs.getD 0 0 = c) := ⟨_, rfl⟩
        rw [unhide HC] at hc
        have HO13 : Hid (w13.ownsRow wr.heap.size 3 1 (.slice (some ⟨wr.heap.size, 0, none⟩) 64 64) 64 ((flatC c 0).map (Value.int .i64))) := by
          have e : (madeCells #[Value.int .i64 0] 64).toList = (flatC c 0).map (Value.int .i64) := by rw [toList_madeCells_one]; simp [flatC]
          unfold Hid; rw [← e]; exact hown
        have HX13 := hide ((unhide HX12).grown hgrow)
        have HG13 := hide (grown_trans (unhide HG12) hgrow)
        have HXN : Hid (∀ b off, so = some ⟨b, off, none⟩ → b ≠ wr.heap.size) := fun b off e => Nat.ne_of_lt ((unhide HX12).lt (by omega) b off e)
        have HS13 := hide (unhide HG12).size
        clear hown hgrow HX12 HG12 hi hz0 hz1 hz2
        generalize wr = wo at *
        go_wp2
        go_loopw [8] (fun i wr => ∃ k : Nat, k ≤ 64 ∧ i = .int .i64 k ∧ Hid (wr.ownsRow wo.heap.size 3 1 (.slice (some ⟨wo.heap.size, 0, none⟩) 64 64) 64 ((flatC c k).map (Value.int .i64))) ∧ Hid (w13.grownBy wr (some wo.heap.size))) (fun i _ => 64 - (intOf i).toNat)
        case atStart => exact ⟨0, Nat.zero_le _, rfl, HO13, World.grownBy.refl _ _⟩
        case round =>
          obtain ⟨k, hk, rfl, hM, hgk⟩ := hrel
          by_cases hlk : k < 64
          · obtain ⟨ab, aoff, rfl, hac⟩ := (unhide HX13).2 0 (by omega)
            rw [unhide HC, Nat.add_zero] at hac
            have ca := (unhide hgk).cell hac (fun e => unhide HXN _ _ rfl (by simpa using e))
            obtain ⟨v0, hv0⟩ : ∃ v, wr.cell? ⟨wo.heap.size, k, none⟩ = some v := by rw [(unhide hM).cellAt k (by omega)]; exact ⟨_, List.getElem?_eq_getElem (by rw [(unhide hM).1]; omega)⟩
            have hfr := (unhide hM).frozenAt k
            have st := (unhide hM).stored k (.int .i64 c)
            have hkI : (k : Int) < 64 := by omega
            have HST : Hid ((wr.setCell ⟨wo.heap.size, k, none⟩ (.int .i64 c)).ownsRow wo.heap.size 3 1 (.slice (some ⟨wo.heap.size, 0, none⟩) 64 64) 64 ((flatC c (k + 1)).map (Value.int .i64)) ∧ w13.grownBy (wr.setCell ⟨wo.heap.size, k, none⟩ (.int .i64 c)) (some wo.heap.size)) := by
              rw [← List.map_set, flat_set c k hlk] at st
              exact ⟨st.1, grown_trans (unhide hgk) (grown_set wr _ _ _)⟩
            clear st hac hM
            go_wp2
            go_roundw
            case rel => exact ⟨k + 1, by omega, by go_num, (unhide HST).1, (unhide HST).2⟩
            case measure => simp [intOf]; omega
          · obtain rfl : k = 64 := by omega
            have hM := unhide hM
            rw [flat_all] at hM
            have HR14 := hide (own_rd hM)
            have HG14 : Hid (w.grownBy wr none) := grown_new (unhide HG13) (unhide hgk) (fun g e => by simp at e; have := unhide HS13; omega)
            have HN14 : Hid (numsB (-2048) 2047 (List.replicate 64 c) = true) := flat_nums hc
            have HF14 : Hid ((if true = true then fwdL (List.replicate 64 c) else []) = fwdL (List.replicate 64 c)) := by unfold Hid; rw [if_pos rfl]
            have HFL : Hid ((fwdL (List.replicate 64 c)).length = 64) := made_len _
            have HFZ : Hid (∀ k, k < 64 → 0 < k → (fwdL (List.replicate 64 c)).getD k 0 = 0) := fun k hk h0 => flat_waves c k hk h0
            clear hM hgk HO13 HX13 HG13 HXN
            generalize List.replicate 64 c = fl at *
            go_wp2_with fail
            refine (implForward (some ⟨wo.heap.size, 0, none⟩) 64 64 fl wr (unhide HR14) ((unhide HQ).grown (unhide HG14)) true HN14 (fwdL fl) HF14).mono ?_
            rintro e w15 ⟨fo, fc, rfl, of, g15⟩
            have HF15 := hide (own_rd of)
            have HG15 := hide (grown_trans (unhide HG14) g15)
            have hflI : ((fwdL fl).length : Int) = 64 := by rw [unhide HFL]; rfl
            clear of g15 HR14 HG14 HF14 HN14
            go_wp2
            go_loopw [9] (fun i wr => ∃ k : Nat, 1 ≤ k ∧ k ≤ 64 ∧ i = .int .i64 k ∧ Hid (w15.grownBy wr none)) (fun i _ => 64 - (intOf i).toNat)
            case atStart => exact ⟨1, by omega, by omega, rfl, World.grownBy.refl _ _⟩
            case round =>
              obtain ⟨k, hk1, hk, rfl, hgk⟩ := hrel
              by_cases hlk : k < 64
              · obtain ⟨fb, foff, rfl, hfc⟩ := (unhide HF15).2 k (by rw [unhide HFL]; exact hlk)
                rw [unhide HFZ k hlk (by omega)] at hfc
                have cf := (unhide hgk).cell hfc (by simp)
                have hkI : (k : Int) < 64 := by omega
                clear hfc
                go_wp2
                go_roundw
                case rel => exact ⟨k + 1, by omega, by omega, by go_num, hgk⟩
                case measure => simp [intOf]; omega
              · obtain rfl : k = 64 := by omega
                go_wp2
                go_ret
                exact ⟨rfl, grown_below (grown_trans (unhide HG15) (unhide hgk))⟩

theorem lawWavesBack (ao : Option Addr) (n cap : Nat) (cs : List Int) (w : World) (hr : Rd .u8 w ao n cs) (hb : ∀ i, 0 ≤ cs.getD i 0 ∧ cs.getD i 0 ≤ 255) (hq : Qw w) :
    Calls Tryd.prog 3 #[.slice ao n cap] w fun e w' => e = .returned (.bool true) ∧ Below w.heap.size w w' := by
  by_cases hn : n ≤ 1048576
  · exact lawWavesBack_in ao n cap cs w hr hb hq hn
  · go_enter Tryd.func3, Tryd.ntmps3
    go_wp2_with fail
    refine (lawBig5 ao n cap true w (by unfold Hid; simp; omega)).mono ?_
    rintro e w0 ⟨rfl, rfl⟩
    go_wp2
    go_ret
    exact ⟨rfl, Below.refl _ _⟩

end Go.Proofs.YtoeehfjbnbbijabDoor
