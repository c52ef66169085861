/-
  The law that numbers are read back from the bins that were made of them, whatever ListBins, BinsOf, EncodeBins and ReadNums of the program do, if they answer as the specification.
-/
import Derived.Test.YtekidfkahpaokaaNumDraw
import Derived.Test.YtekidfkahpaokaaNumsGive
import Derived.Test.YtekidfkahpaokaaLawAid
import Derived.Test.YtekidfkahpaokaaSameInts
namespace Go.Proofs.Ytekidfkahpaokaa
open Go.RowKit

/-- How many bins the first numbers have. -/
def sumTo10 (base : Int) (xs : List Int) (k : Nat) : Nat := ((xs.take k).map fun n => (binsOfG n base).length).sum
theorem sumTo10_next (base : Int) (xs : List Int) (k : Nat) (h : k < xs.length) : sumTo10 base xs (k + 1) = sumTo10 base xs k + (binsOfG (xs.getD k 0) base).length := by
  unfold sumTo10
  rw [List.take_succ_eq_append_getElem h, List.map_append, List.sum_append]
  simp [h]
theorem sumTo10_all {base : Int} {xs : List Int} (h : listG xs base ≠ []) : sumTo10 base xs xs.length = (listG xs base).length := by
  obtain ⟨h1, h2, h3, h4⟩ := listG_pos h
  rw [h4, list_sum]
  unfold sumTo10
  rw [List.take_length]
  congr 1
  apply List.map_congr_left
  intro n hn
  have e1 : baseB base = true := decide_eq_true h2
  have e2 := List.all_eq_true.1 h3 n hn
  unfold binsOfG
  rw [e1, e2]; rfl
theorem sumTo10_le (base : Int) (xs : List Int) : ∀ k, k ≤ xs.length → sumTo10 base xs k ≤ 31 * k
  | 0, _ => by simp [sumTo10]
  | k + 1, h => by
    have h1 := sumTo10_le base xs k (by omega)
    rw [sumTo10_next base xs k (by omega)]
    have h2 : (binsOfG (xs.getD k 0) base).length ≤ 31 := by
      unfold binsOfG
      split
      · rename_i hc
        rw [Bool.and_eq_true] at hc
        exact binsI_len hc.1
      · simp
    omega

set_option maxRecDepth 20000 in
set_option maxHeartbeats 3200000 in
theorem lawNumsCoded_in (HI : ImplList) (HJ : ImplBinsOf) (HK : ImplEnc) (HM : ImplReadN) (ao : Option Addr) (n cap : Nat) (zs : List Int) (w : World) (hr : Rd .u8 w ao n zs) (hb : ∀ i, 0 ≤ zs.getD i 0 ∧ zs.getD i 0 ≤ 255) (hn : n ≤ 1048576) :
    Calls Try.prog 3 #[.slice ao n cap] w fun e w' => e = .returned (.bool true) ∧ Below w.heap.size w w' := by
  have HR := hide hr
  have HB := hide hb
  have HII := hide HI
  have HJJ := hide HJ
  have HKK := hide HK
  have HMM := hide HM
  clear hr hb HI HJ HK HM
  go_enter Try.func3, Try.ntmps3
  go_wp2_with fail
  refine (lawBig ao n cap false w (by unfold Hid; simp; omega)).mono ?_
  rintro e w0 ⟨rfl, rfl⟩
  go_wp2_with fail
  refine (drawList10 ao n cap zs w (unhide HR) (unhide HB) hn).mono ?_
  rintro e w1 ⟨so, sc, Y, b, rfl, hYl, r1, g1⟩
  obtain ⟨L, HL⟩ : ∃ L, Hid (listG Y b = L) := ⟨_, rfl⟩
  have hLl : L.length ≤ 126976 := by rw [← unhide HL]; exact listG_len Y b
  have HY1 := hide r1
  have G1 := hide g1
  clear r1 g1
  obtain ⟨m, HYM⟩ : ∃ m, Hid (Y.length = m) := ⟨_, rfl⟩
  rw [unhide HYM] at hYl HY1 ⊢
  go_wp2_with fail
  refine (unhide HII so m sc Y b w1 (unhide HY1) (by omega)).mono ?_
  rw [unhide HL]
  rintro e w2 ⟨bo, bc, rfl, o2, g2⟩
  have HB2 : Hid (RdF w2 bo L.length L) := own_rdF o2
  have HY2 := hide ((unhide HY1).grown g2)
  have G2 := hide (grown_trans (unhide G1) g2)
  clear o2 g2 HY1 G1
  go_wp2_with fail
  refine (specList so m sc Y b w2 (unhide HY2) L HL).mono ?_
  rintro e w3 ⟨eo, ec, rfl, o3, g3⟩
  have HE3 : Hid (RdF w3 eo L.length L) := own_rdF o3
  have HB3 := hide ((unhide HB2).grown g3)
  have HY3 := hide ((unhide HY2).grown g3)
  have G3 := hide (grown_trans (unhide G2) g3)
  clear o3 g3 HY2 G2 HB2
  obtain ⟨l, HLL⟩ : ∃ l, Hid (L.length = l) := ⟨_, rfl⟩
  rw [unhide HLL] at hLl HE3 HB3 ⊢
  have hne : ((l : Int) != (l : Int)) = false := by simp
  go_wp2
  go_loopw [7] (fun iv wr => ∃ i : Nat, i ≤ l ∧ iv = .int .i64 i ∧ Hid (w3.grownBy wr none)) (fun iv _ => l - (intOf iv).toNat)
  case atStart => exact ⟨0, Nat.zero_le _, rfl, World.grownBy.refl _ _⟩
  case round =>
    obtain ⟨i, hi, rfl, hg⟩ := hrel
    by_cases hlt : i < l
    · obtain ⟨xb, xf, rfl, x0, x1⟩ := ((unhide HB3).grown (unhide hg)).2 i hlt
      obtain ⟨yb, yf, rfl, y0, y1⟩ := ((unhide HE3).grown (unhide hg)).2 i hlt
      generalize L.getD i (0, 0) = z at *
      obtain ⟨p, q⟩ := z
      dsimp only at x0 x1 y0 y1
      have hiI : (i : Int) < (l : Int) := by omega
      have HGN : Hid (∀ nq, w3.grownBy (wr.drewN nq) none) := fun nq => grown_drewN (unhide hg) nq
      go_wp2
      go_quiet (fail)
      have HG5 := hide (unhide HGN nq)
      clear HGN hg
      go_wp2
      go_roundw
      case rel => exact ⟨i + 1, by omega, by go_num, HG5⟩
      case measure => simp [intOf]; omega
    · obtain rfl : i = l := by omega
      have HG4 := hide (grown_trans (unhide G3) (unhide hg))
      have HB4 := hide ((unhide HB3).grown (unhide hg))
      have HY4 := hide ((unhide HY3).grown (unhide hg))
      obtain ⟨w4, rfl⟩ : ∃ w4, w4 = wr := ⟨wr, rfl⟩
      clear hg HB3 HY3 G3 HE3
      by_cases hl0 : i = 0
      · subst hl0
        have HF := hide (grown_below (unhide HG4))
        go_wp2
        go_ret
        exact ⟨rfl, unhide HF⟩
      · have hi0 : ((i : Int) == 0) = false := beq_false_of_ne (by omega)
        have hLne : listG Y b ≠ [] := fun e => by
          have h1 := unhide HLL
          rw [← unhide HL, e] at h1
          exact hl0 h1.symm
        have HSUM : Hid (sumTo10 b Y m = i) := by
          unfold Hid
          rw [← unhide HYM, sumTo10_all hLne, unhide HL, unhide HLL]
        obtain ⟨q1, q2⟩ := read_list hLne
        rw [unhide HL] at q1 q2
        rw [unhide HYM] at q2
        have HQ2 := hide q2
        clear q1 q2 hLne
        go_wp2
        go_loopw [8, 9] (fun sv iv wr => ∃ k : Nat, k ≤ m ∧ sv = .int .i64 ((sumTo10 b Y k : Nat) : Int) ∧ iv = .int .i64 k ∧ Hid (w4.grownBy wr none)) (fun _ iv _ => m - (intOf iv).toNat)
        case atStart => exact ⟨0, Nat.zero_le _, rfl, rfl, World.grownBy.refl _ _⟩
        case round =>
          obtain ⟨k, hk, rfl, rfl, hg⟩ := hrel
          by_cases hkm : k < m
          · obtain ⟨yb, yf, rfl, y0⟩ := ((unhide HY4).grown (unhide hg)).2 k hkm
            have hks : k < Y.length := by rw [unhide HYM]; exact hkm
            have hnx := sumTo10_next b Y k hks
            have hle := sumTo10_le b Y (k + 1) (by omega)
            have hkI : (k : Int) < (m : Int) := by omega
            generalize Y.getD k 0 = y at *
            have HBO := hide (unhide HJJ y b wr)
            obtain ⟨Z, HZ⟩ : ∃ Z, Hid (binsOfG y b = Z) := ⟨_, rfl⟩
            rw [unhide HZ] at HBO hnx
            obtain ⟨zl, HZL⟩ : ∃ zl, Hid (Z.length = zl) := ⟨_, rfl⟩
            rw [unhide HZL] at HBO hnx
            obtain ⟨s, HS⟩ : ∃ s, Hid (sumTo10 b Y k = s) := ⟨_, rfl⟩
            rw [unhide HS] at hnx ⊢
            have HNX := hide hnx
            have e5 := i64_in ((s : Int) + (zl : Int)) (by omega)
            clear hnx hle
            go_wp2_with fail
            refine (unhide HBO).mono ?_
            rintro e w5 ⟨co, cc, rfl, _, g5⟩
            have HG5 := hide (grown_trans (unhide hg) g5)
            clear g5 hg HBO y0
            go_wp2
            go_roundw
            case rel => exact ⟨k + 1, by omega, by rw [unhide HNX]; go_num, by go_num, HG5⟩
            case measure => simp [intOf]; omega
          · obtain rfl : k = m := by omega
            rw [unhide HSUM]
            have HB5 := hide ((unhide HB4).grown (unhide hg))
            have HY5 := hide ((unhide HY4).grown (unhide hg))
            have HG5 := hide (grown_trans (unhide HG4) (unhide hg))
            clear hg HB4 HY4 HG4 HSUM
            have heq : ((i : Int) == (i : Int)) = true := by simp
            obtain ⟨E, HE⟩ : ∃ E, Hid (encG L = E) := ⟨_, rfl⟩
            have hEl : E.length ≤ 126980 := by rw [← unhide HE]; have := enc_len L; have := unhide HLL; omega
            have HEB : Hid (∀ i, 0 ≤ E.getD i 0 ∧ E.getD i 0 ≤ 255) := by rw [← unhide HE]; exact enc_byte L
            rw [unhide HE] at HQ2
            go_wp2_with fail
            refine (unhide HKK bo i bc L wr (unhide HB5) (by omega)).mono ?_
            rw [unhide HE]
            rintro e w6 ⟨fo, fc, rfl, o6, g6⟩
            have HE6 : Hid (Rd .u8 w6 fo E.length E) := own_rd o6
            have HY6 := hide ((unhide HY5).grown g6)
            have HG6 := hide (grown_trans (unhide HG5) g6)
            clear o6 g6 HB5 HY5 HG5
            go_wp2_with fail
            refine (unhide HMM fo E.length fc E k b w6 (unhide HE6) (unhide HEB) (by omega)).mono ?_
            rw [unhide HQ2, unhide HYM]
            rintro e w7 ⟨ho, hc, rfl, o7, g7⟩
            have HR7 : Hid (Rd .i64 w7 ho k Y) := own_rd o7
            have HY7 := hide ((unhide HY6).grown g7)
            have HG7 := hide (grown_trans (unhide HG6) g7)
            clear o7 g7 HE6 HY6 HG6
            go_wp2_with fail
            refine (sameInts ho so k hc sc Y w7 (unhide HR7) (unhide HY7) (by omega)).mono ?_
            rintro e w8 ⟨rfl, g8⟩
            have HF := hide (grown_below (grown_trans (unhide HG7) g8))
            clear g8 HG7
            go_wp2
            go_ret
            exact ⟨rfl, unhide HF⟩

set_option maxRecDepth 20000 in
theorem lawNumsCoded (HI : ImplList) (HJ : ImplBinsOf) (HK : ImplEnc) (HM : ImplReadN) (ao : Option Addr) (n cap : Nat) (zs : List Int) (w : World) (hr : Rd .u8 w ao n zs) (hb : ∀ i, 0 ≤ zs.getD i 0 ∧ zs.getD i 0 ≤ 255) :
    Calls Try.prog 3 #[.slice ao n cap] w fun e w' => e = .returned (.bool true) ∧ Below w.heap.size w w' := by
  by_cases hn : n ≤ 1048576
  · exact lawNumsCoded_in HI HJ HK HM ao n cap zs w hr hb hn
  · clear hr hb
    go_enter Try.func3, Try.ntmps3
    go_wp2_with fail
    refine (lawBig ao n cap true w (by unfold Hid; simp; omega)).mono ?_
    rintro e w0 ⟨rfl, rfl⟩
    go_wp2
    go_ret
    exact ⟨rfl, grown_below (World.grownBy.refl _ _)⟩

end Go.Proofs.Ytekidfkahpaokaa
