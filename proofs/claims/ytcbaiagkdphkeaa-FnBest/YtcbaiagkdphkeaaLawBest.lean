/-
  The law that the best lens cost no more than any others, whatever BestLens, CostOf and LensOk of the program do, if they answer as the specification.
-/
import Derived.Test.YtcbaiagkdphkeaaCodesDraw
import Derived.Test.YtcbaiagkdphkeaaCostDraw
import Derived.Test.YtcbaiagkdphkeaaCostSpec
import Derived.Test.YtcbaiagkdphkeaaLawPrefix
import Derived.Test.YtcbaiagkdphkeaaLawAid
import Derived.Test.YtcbaiagkdphkeaaSameInts
import Derived.Test.YtcbaiagkdphkeaaHeldLast
import Derived.Test.YtcbaiagkdphkeaaAppRdI
namespace Go.Proofs.Ytcbaiagkdphkeaa
open Go.RowKit

def ImplBest : Prop := ∀ (ao : Option Addr) (n cap : Nat) (fs : List Int) (w : World), Rd .i64 w ao n fs → n ≤ 1048576 →
  Calls Try.prog 16 #[.slice ao n cap] w fun e w' => ∃ v, e = .returned v ∧ w'.ownsRow w.heap.size 3 1 v (bestG fs).length ((bestG fs).map (Value.int .i64)) ∧ w.grownBy w' none
def ImplCost : Prop := ∀ (ao : Option Addr) (n cap : Nat) (fs : List Int) (bo : Option Addr) (m capb : Nat) (ls : List Int) (w : World), Rd .i64 w ao n fs → Rd .i64 w bo m ls → n ≤ 1048576 → m ≤ 1048576 → ∀ z, Hid (costG fs ls = z) →
  Calls Try.prog 19 #[.slice ao n cap, .slice bo m capb] w fun e w' => e = .returned (.int .i64 z) ∧ w.grownBy w' none

theorem lawPick1 (ao : Option Addr) (n cap a : Nat) (k : Int) (zs : List Int) (w : World) (hr : Rd .u8 w ao n zs) (hb : ∀ i, 0 ≤ zs.getD i 0 ∧ zs.getD i 0 ≤ 255) (hn : n ≤ 1048576) (ha : a ≤ 1000000) (hk : 1 ≤ k) (hk3 : k ≤ 2147483648) :
    Calls Try.prog 21 #[.slice ao n cap, .int .i64 a, .int .i64 k] w fun e w' => (∃ x : Int, e = .returned (.int .i64 x) ∧ 0 ≤ x ∧ x < k) ∧ w = w' := by
  by_cases h2 : 2 ≤ k
  · exact lawPick ao n cap a k zs w hr hb hn ha h2 hk3
  · have hd : decide (k < 2) = true := decide_eq_true (by omega)
    clear hr hb
    by_cases h0 : n = 0
    · subst h0
      go_enter Try.func21, Try.ntmps21
      go_wp2
      go_ret
      exact ⟨⟨0, rfl, by omega, by omega⟩, rfl⟩
    · have h00 : ((n : Int) == 0) = false := beq_false_of_ne (by omega)
      go_enter Try.func21, Try.ntmps21
      go_wp2
      go_ret
      exact ⟨⟨0, rfl, by omega, by omega⟩, rfl⟩

set_option maxRecDepth 20000 in
set_option maxHeartbeats 3200000 in
theorem lawBest_in (HI : ImplBest) (HK : ImplCost) (HJ : ImplLens) (ao : Option Addr) (n cap : Nat) (zs : List Int) (mo : Option Addr) (mn mc : Nat) (ms : List Int) (w : World) (hr : Rd .u8 w ao n zs) (hb : ∀ i, 0 ≤ zs.getD i 0 ∧ zs.getD i 0 ≤ 255) (hn : n ≤ 1048576)
    (hr2 : Rd .u8 w mo mn ms) (hb2 : ∀ i, 0 ≤ ms.getD i 0 ∧ ms.getD i 0 ≤ 255) (hn2 : mn ≤ 1048576) :
    Calls Try.prog 4 #[.slice ao n cap, .slice mo mn mc] w fun e w' => e = .returned (.bool true) ∧ Below w.heap.size w w' := by
  have HR := hide hr
  have HB := hide hb
  have HM := hide hr2
  have HMB := hide hb2
  have HII := hide HI
  have HJJ := hide HJ
  have HKK := hide HK
  clear hr hb HI HJ HK hr2 hb2
  go_enter Try.func4, Try.ntmps4
  go_wp2_with fail
  refine (lawBig8 ao n cap false w (by unfold Hid; simp; omega)).mono ?_
  rintro e w0 ⟨rfl, rfl⟩
  go_wp2_with fail
  refine (lawBig8 mo mn mc false w (by unfold Hid; simp; omega)).mono ?_
  rintro e w0 ⟨rfl, rfl⟩
  go_wp2_with fail
  refine (drawBestLens ao n cap zs w (unhide HR) (unhide HB) hn).mono ?_
  rintro e w1 ⟨so, m, sc, F, rfl, hm1, hm2, r1, g1⟩
  obtain ⟨X, HX⟩ : ∃ X, Hid (bestG F = X) := ⟨_, rfl⟩
  have HFL := hide r1.1
  have hXl : X.length ≤ 257 := by
    have := bestG_le F
    rw [unhide HX, unhide HFL] at this
    omega
  have HR1 := hide r1
  have G1 := hide g1
  clear r1 g1
  go_wp2_with fail
  refine (unhide HII so m sc F w1 (unhide HR1) (by omega)).mono ?_
  rw [unhide HX]
  rintro e w2 ⟨v2, rfl, o2, g2⟩
  obtain ⟨lo, lc, rfl⟩ := own_form o2
  have HL2 : Hid (Rd .i64 w2 lo X.length X) := own_rd o2
  have HR2 := hide ((unhide HR1).grown g2)
  have G2 := hide (grown_trans (unhide G1) g2)
  clear o2 g2 HR1 G1
  go_wp2_with fail
  refine (specBestLens so m sc F w2 (unhide HR2)).mono ?_
  rw [unhide HX]
  rintro e w3 ⟨v3, rfl, o3, g3⟩
  obtain ⟨wo, wc, rfl⟩ := own_form o3
  have HW3 : Hid (Rd .i64 w3 wo X.length X) := own_rd o3
  have HL3 := hide ((unhide HL2).grown g3)
  have HR3 := hide ((unhide HR2).grown g3)
  have G3 := hide (grown_trans (unhide G2) g3)
  clear o3 g3 HR2 G2 HL2
  go_wp2_with fail
  refine (sameInts lo wo X.length lc wc X w3 (unhide HL3) (unhide HW3) (by omega)).mono ?_
  rintro e w4 ⟨rfl, g4⟩
  have HW4 := hide ((unhide HW3).grown g4)
  have HL4 := hide ((unhide HL3).grown g4)
  have HR4 := hide ((unhide HR3).grown g4)
  have G4 := hide (grown_trans (unhide G3) g4)
  clear g4 HR3 G3 HL3 HW3
  by_cases hX0 : X.length = 0
  · have hx0 : ((X.length : Int) == 0) = true := by simp [hX0]
    have HFB := hide (grown_below (unhide G4))
    clear hX0
    go_wp2
    go_ret
    exact ⟨rfl, unhide HFB⟩
  · have hx0 : ((X.length : Int) == 0) = false := beq_false_of_ne (by omega)
    have HFB : Hid (freqsB F = true) := by
      unfold Hid
      cases h : freqsB F with
      | true => rfl
      | false =>
        exfalso
        apply hX0
        rw [← unhide HX, bestG, h]; rfl
    have HXM : Hid (X.length = m) := by unfold Hid; rw [← unhide HX, best_len (unhide HFB), unhide HFL]
    obtain ⟨z, HZ⟩ : ∃ z, Hid (costG F X = z) := ⟨_, rfl⟩
    have hz0 : 0 ≤ z := by rw [← unhide HZ, ← unhide HX]; exact best_cost_pos (unhide HFB)
    have HMIN : Hid (∀ ls, 0 ≤ costG F ls → z ≤ costG F ls) := fun ls h => by rw [← unhide HZ, ← unhide HX]; exact best_least (unhide HFB) ls h
    have HLB : Hid (lensB X = true) := by unfold Hid; rw [← unhide HX]; exact best_lens (unhide HFB)
    have HEQ : Hid (∀ s, s < m → (F.getD s 0 = 0 ↔ X.getD s 0 = 0)) := fun s hs => by rw [← unhide HX]; exact (best_codes (unhide HFB) (by rw [unhide HFL]; exact hs)).2.2
    go_wp2_with fail
    refine (unhide HKK so m sc F lo X.length lc X w4 (unhide HR4) (unhide HL4) (by omega) (by omega) z HZ).mono ?_
    rintro e w5 ⟨rfl, g5⟩
    have HW5 := hide ((unhide HW4).grown g5)
    have HL5 := hide ((unhide HL4).grown g5)
    have HR5 := hide ((unhide HR4).grown g5)
    have G5 := hide (grown_trans (unhide G4) g5)
    clear g5 HR4 G4 HL4 HW4
    go_wp2_with fail
    refine (unhide HJJ lo X.length lc X w5 (unhide HL5) (by omega) true HLB).mono ?_
    rintro e w6 ⟨rfl, g6⟩
    have HW6 := hide ((unhide HW5).grown g6)
    have HL6 := hide ((unhide HL5).grown g6)
    have HR6 := hide ((unhide HR5).grown g6)
    have G6 := hide (grown_trans (unhide G5) g6)
    clear g6 HR5 G5 HL5 HW5
    go_wp2_with fail
    refine (specCostOf so m sc F wo X.length wc X w6 (unhide HR6) (unhide HW6) z HZ).mono ?_
    rintro e w7 ⟨rfl, g7⟩
    have HL7 := hide ((unhide HL6).grown g7)
    have HR7 := hide ((unhide HR6).grown g7)
    have G7 := hide (grown_trans (unhide G6) g7)
    clear g7 HR6 G6 HL6 HW6
    have hzn : decide (z < 0) = false := decide_eq_false (by omega)
    have hzz : (z == z) = true := by simp
    go_wp2
    go_loopw [9] (fun i wr => ∃ k : Nat, k ≤ m ∧ i = .int .i64 k ∧ Hid (w7.grownBy wr none)) (fun i _ => m - (intOf i).toNat)
    case atStart => exact ⟨0, Nat.zero_le _, rfl, World.grownBy.refl _ _⟩
    case round =>
      obtain ⟨k, hk, rfl, hg⟩ := hrel
      by_cases hkm : k < m
      · have hkI : (k : Int) < (m : Int) := by omega
        have hkX : k < X.length := by rw [unhide HXM]; exact hkm
        have hkXI : (k : Int) < (X.length : Int) := by omega
        have e5 := i64_in ((k : Int) + 1) (by omega)
        obtain ⟨fb, ff, rfl, f0⟩ := ((unhide HR7).grown (unhide hg)).2 k hkm
        obtain ⟨xb, xf, rfl, x0⟩ := ((unhide HL7).grown (unhide hg)).2 k hkX
        have heq := unhide HEQ k hkm
        generalize F.getD k 0 = f at *
        generalize X.getD k 0 = x at *
        have hfx : (f == 0) = (x == 0) := by
          by_cases h : f = 0
          · rw [h, heq.1 h]
          · rw [beq_false_of_ne h, beq_false_of_ne (fun h' => h (heq.2 h'))]
        obtain ⟨t, ht⟩ : ∃ t, (x == 0) = t := ⟨_, rfl⟩
        rw [ht] at hfx
        have htt : (t == t) = true := by simp
        clear heq
        go_wp2
        go_quiet (fail)
        go_wp2
        go_roundw
        case rel => exact ⟨k + 1, by omega, by go_num, grown_drewN (unhide hg) _⟩
        case measure => simp [intOf]; omega
      · obtain rfl : k = m := by omega
        obtain ⟨wb, rfl⟩ : ∃ wb, wb = wr := ⟨wr, rfl⟩
        have HLb := hide ((unhide HL7).grown (unhide hg))
        have HRb := hide ((unhide HR7).grown (unhide hg))
        have Gb := hide (grown_trans (unhide G7) (unhide hg))
        obtain ⟨lb, lf, rfl, _⟩ := (unhide HLb).2 0 (by omega)
        have HO0 : Hid ((wb.alloc (.cells #[] 3)).ownsRow wb.heap.size 3 1 (.slice (some ⟨wb.heap.size, 0, none⟩) 0 0) ([] : List Int).length (([] : List Int).map (Value.int .i64))) := World.ownsRow_lit wb #[] 0 (Nat.le_refl _) (by unfold maxLen; omega) rfl
        have HLa := hide ((unhide HLb).grown (World.grownBy_alloc wb (.cells #[] 3) none))
        clear HL7 HR7 G7 hg
        go_wp2_with (at_builtin; refine append_rdI rfl _ _ rfl wb.heap.size (.slice (some ⟨wb.heap.size, 0, none⟩) 0 0) [] rfl (unhide HO0) ⟨lb, lf, none⟩ X.length lc X rfl (unhide HLa) (by simp; omega) (by simp) X rfl ?_)
        intro v8 w8 o8 g8
        obtain ⟨go, oc, rfl⟩ := own_form o8
        obtain ⟨g, rfl, hgb, _⟩ := own_at o8 (by omega)
        have G8 : Hid (wb.grownBy w8 none) := grown_new (World.grownBy_alloc _ _ _) g8 (fun g e => by simp [Value.ownBlock] at e; omega)
        have HO8 := hide o8
        clear o8 g8 HO0 HLa
        go_wp2
        go_loopw [11] (fun i wr => ∃ (k : Nat) (Z : List Int), k ≤ 6 ∧ i = .int .i64 k ∧ Hid (Z.length = X.length) ∧ Hid (wr.ownsRow wb.heap.size 3 1 (.slice (some ⟨g, 0, none⟩) X.length oc) X.length (Z.map (Value.int .i64))) ∧ Hid (wb.grownBy wr none)) (fun i _ => 6 - (intOf i).toNat)
        case atStart => exact ⟨0, X, Nat.zero_le _, rfl, rfl, HO8, G8⟩
        case round =>
          clear HO8 G8
          obtain ⟨j, Z, hj, rfl, hZ, ho, hg⟩ := hrel
          by_cases hj6 : j < 6
          · have hd6 : decide ((j : Int) < 6) = true := decide_eq_true (by omega)
            have e6 := i64_in ((j : Int) + 1) (by omega)
            have e7 := i64_in ((j : Int) + 3) (by omega)
            have HMr := hide ((unhide HM).grown (grown_trans (unhide Gb) (unhide hg)))
            go_wp2_with fail
            refine (lawPick1 mo mn mc j X.length ms wr (unhide HMr) (unhide HMB) hn2 (by omega) (by omega) (by omega)).mono ?_
            rintro e w9 ⟨⟨y, rfl, hy0, hy1⟩, rfl⟩
            obtain ⟨yn, rfl⟩ := Int.eq_ofNat_of_zero_le hy0
            have hyX : yn < X.length := by omega
            have hc9 := (unhide ho).cellAt yn (by omega)
            have hfr := (unhide ho).frozenAt yn
            have hzl : yn < Z.length := by rw [unhide hZ]; exact hyX
            rw [List.getElem?_map, List.getElem?_eq_getElem hzl] at hc9
            simp only [Option.map_some] at hc9
            generalize Z[yn] = q at hc9
            go_wp2
            refine wp_region_noPanic ?_
            refine wp_region_tailL 3 (fun w' => w'.cell? ⟨g, yn, none⟩ = some (.int .i64 q)) [true, true, true, true, true, true, true, true, true, false, false, false, false, false] (by kernel_rfl) (fun _ _ _ _ _ h => h) rfl (by decide) (by kernel_rfl) hc9 ?_
            iterate 9
              refine heldF_take (v := ?_) (Or.inl ⟨by rfl, ?_⟩) ?_
              rotate_left 1
              · intro w' hSw
                try dsimp only at hSw
                go_simp
                try with_reducible rfl
              simp only [Act.put, List.setIfInBounds_toArray, List.set_cons_zero, List.set_cons_succ]
            refine heldF_skip (heldF_skip (heldF_skip (heldF_skip (heldF_skip (heldF_nil ?_)))))
            iterate 9 refine tailL_skip ?_
            refine tailL_step (fun K hK => ?_)
            go_simp
            refine (lawPick1 mo mn mc (j + 3) 5 ms _ ((unhide HMr).grown (grown_drew (World.grownBy.refl _ _))) (unhide HMB) hn2 (by omega) (by omega) (by omega)).mono ?_
            rintro e w10 ⟨⟨x, rfl, hx0, hx1⟩, rfl⟩
            go_simp
            have hc9d : (wr.drew).cell? ⟨g, yn, none⟩ = some (.int .i64 q) := hc9
            have hfrd : (wr.drew).frozen? ⟨g, yn, none⟩ = false := hfr
            refine hK.out _ _ (.inr hc9d) ?_
            clear hK K
            refine tailL_step (fun K hK => ?_)
            go_simp
            refine hK.out _ _ (.inr hc9d) ?_
            clear hK K
            refine tailL_step (fun K hK => ?_)
            go_simp
            refine hK.out _ _ (.inr hc9d) ?_
            clear hK K
            refine tailL_step (fun K hK => ?_)
            go_simp
            refine hK.out _ _ (.inr hc9d) ?_
            clear hK K
            refine tailL_step (fun K hK => ?_)
            go_simp
            refine hK.out _ _ (.inl rfl) ?_
            clear hK K
            refine tailL_nil (NoPanic.normal ?_)
            go_wp2_with fail
            generalize wrap64 (wrap64 (q + x) - 2) = u
            have st := (unhide ho).stored yn (.int .i64 u)
            have HST : Hid ((wr.setCell ⟨g, yn, none⟩ (.int .i64 u)).drew.ownsRow wb.heap.size 3 1 (.slice (some ⟨g, 0, none⟩) X.length oc) X.length ((Z.set yn u).map (Value.int .i64))) := by
              unfold Hid
              rw [List.map_set]
              exact World.ownsRow.drew st.1
            have HGS : Hid (wb.grownBy (wr.setCell ⟨g, yn, none⟩ (.int .i64 u)).drew none) := grown_drew (grown_new (unhide hg) st.2 (fun g' e => by simp at e; omega))
            have HZ2 : Hid ((Z.set yn u).length = X.length) := by unfold Hid; rw [List.length_set]; exact unhide hZ
            clear st
            generalize (wr.setCell ⟨g, yn, none⟩ (.int .i64 u)).drew = ws at *
            generalize Z.set yn u = Z2 at *
            obtain ⟨z2, HZC⟩ : ∃ z2, Hid (costG F Z2 = z2) := ⟨_, rfl⟩
            have hzc : 0 ≤ z2 → z ≤ z2 := fun h => by
              have := unhide HMIN Z2 (by rw [unhide HZC]; exact h)
              rwa [unhide HZC] at this
            have HRs := hide ((unhide HRb).grown (unhide HGS))
            have HOs : Hid (Rd .i64 ws (some ⟨g, 0, none⟩) X.length Z2) := own_rd (unhide HST)
            have hz22 : (z2 == z2) = true := by simp
            refine (unhide HKK so k sc F (some ⟨g, 0, none⟩) X.length oc Z2 ws (unhide HRs) (unhide HOs) (by omega) (by omega) z2 HZC).mono ?_
            rintro e wt ⟨rfl, gt⟩
            have HRt := hide ((unhide HRs).grown gt)
            have HOt := hide ((unhide HOs).grown gt)
            have HST2 := hide (own_beneath (unhide HST) gt (fun a b _ e2 => by simp at e2))
            have HGt := hide (grown_trans (unhide HGS) gt)
            clear gt HST HGS HRs HOs ho hg
            go_wp2_with fail
            refine (specCostOf so k sc F (some ⟨g, 0, none⟩) X.length oc Z2 wt (unhide HRt) (unhide HOt) z2 HZC).mono ?_
            rintro e wu ⟨rfl, gu⟩
            have HST3 := hide (own_beneath (unhide HST2) gu (fun a b _ e2 => by simp at e2))
            have HGu := hide (grown_trans (unhide HGt) gu)
            clear gu HST2 HGt HRt HOt
            by_cases hz2 : 0 ≤ z2
            · have dz : decide (0 ≤ z2) = true := decide_eq_true hz2
              have dz2 : decide (z2 < z) = false := decide_eq_false (by have := hzc hz2; omega)
              clear hzc
              go_wp2
              go_roundw
              case rel => exact ⟨j + 1, Z2, by omega, by go_num, HZ2, HST3, HGu⟩
              case measure => simp [intOf]; omega
            · have dz : decide (0 ≤ z2) = false := decide_eq_false hz2
              clear hzc
              go_wp2
              go_roundw
              case rel => exact ⟨j + 1, Z2, by omega, by go_num, HZ2, HST3, HGu⟩
              case measure => simp [intOf]; omega
          · have hd6 : decide ((j : Int) < 6) = false := decide_eq_false (by omega)
            have HMr := hide ((unhide HM).grown (grown_trans (unhide Gb) (unhide hg)))
            have HRr := hide ((unhide HRb).grown (unhide hg))
            have Gr := hide (grown_trans (unhide Gb) (unhide hg))
            clear ho hg
            go_wp2_with fail
            refine (drawCostOf mo mn mc ms wr (unhide HMr) (unhide HMB) hn2).mono ?_
            rintro e w10 ⟨so1, m1, sc1, F1, to1, k1, tc1, S1, rfl, hm11, hm12, hk1, r10, s10, g10⟩
            obtain ⟨z3, HZ3⟩ : ∃ z3, Hid (costG F S1 = z3) := ⟨_, rfl⟩
            have hzc : 0 ≤ z3 → z ≤ z3 := fun h => by
              have := unhide HMIN S1 (by rw [unhide HZ3]; exact h)
              rwa [unhide HZ3] at this
            have HR10 := hide ((unhide HRr).grown g10)
            have HS10 := hide s10
            have G10 := hide (grown_trans (unhide Gr) g10)
            clear r10 s10 g10 HRr HMr Gr
            go_wp2_with fail
            refine (unhide HKK so k sc F to1 k1 tc1 S1 w10 (unhide HR10) (unhide HS10) (by omega) (by omega) z3 HZ3).mono ?_
            rintro e w11 ⟨rfl, g11⟩
            have HR11 := hide ((unhide HR10).grown g11)
            have HS11 := hide ((unhide HS10).grown g11)
            have G11 := hide (grown_trans (unhide G10) g11)
            clear g11 HR10 HS10 G10
            go_wp2_with fail
            refine (specCostOf so k sc F to1 k1 tc1 S1 w11 (unhide HR11) (unhide HS11) z3 HZ3).mono ?_
            rintro e w12 ⟨rfl, g12⟩
            have HFB := hide (grown_below (grown_trans (unhide G11) g12))
            have hz33 : (z3 == z3) = true := by simp
            clear g12 HR11 HS11 G11
            by_cases hz3 : z3 < 0
            · have dz : decide (z3 < 0) = true := decide_eq_true hz3
              clear hzc
              go_wp2
              go_ret
              exact ⟨rfl, unhide HFB⟩
            · have dz : decide (z3 < 0) = false := decide_eq_false hz3
              have dz2 : decide (z ≤ z3) = true := decide_eq_true (hzc (by omega))
              clear hzc
              go_wp2
              go_ret
              exact ⟨rfl, unhide HFB⟩

set_option maxRecDepth 20000 in
theorem lawBest (HI : ImplBest) (HK : ImplCost) (HJ : ImplLens) (ao bo : Option Addr) (n cap nb capb : Nat) (zs ys : List Int) (w : World) (hr : Rd .u8 w ao n zs) (hb : ∀ i, 0 ≤ zs.getD i 0 ∧ zs.getD i 0 ≤ 255)
    (hr2 : Rd .u8 w bo nb ys) (hb2 : ∀ i, 0 ≤ ys.getD i 0 ∧ ys.getD i 0 ≤ 255) :
    Calls Try.prog 4 #[.slice ao n cap, .slice bo nb capb] w fun e w' => e = .returned (.bool true) ∧ Below w.heap.size w w' := by
  by_cases hn : n ≤ 1048576
  · by_cases hn2 : nb ≤ 1048576
    · exact lawBest_in HI HK HJ ao n cap zs bo nb capb ys w hr hb hn hr2 hb2 hn2
    · clear hr hb hr2 hb2
      go_enter Try.func4, Try.ntmps4
      go_wp2_with fail
      refine (lawBig8 ao n cap false w (by unfold Hid; simp; omega)).mono ?_
      rintro e w0 ⟨rfl, rfl⟩
      go_wp2_with fail
      refine (lawBig8 bo nb capb true w (by unfold Hid; simp; omega)).mono ?_
      rintro e w0 ⟨rfl, rfl⟩
      go_wp2
      go_ret
      exact ⟨rfl, grown_below (World.grownBy.refl _ _)⟩
  · clear hr hb hr2 hb2
    go_enter Try.func4, Try.ntmps4
    go_wp2_with fail
    refine (lawBig8 ao n cap true w (by unfold Hid; simp; omega)).mono ?_
    rintro e w0 ⟨rfl, rfl⟩
    go_wp2
    go_ret
    exact ⟨rfl, grown_below (World.grownBy.refl _ _)⟩

end Go.Proofs.Ytcbaiagkdphkeaa
