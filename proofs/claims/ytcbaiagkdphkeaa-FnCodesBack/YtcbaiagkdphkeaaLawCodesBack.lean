/-
  The law that symbols are read back from their codes, whatever CodeText and CodeRead of the program do, if they answer as the specification.
-/
import Derived.Test.YtcbaiagkdphkeaaCodesDraw
import Derived.Test.YtcbaiagkdphkeaaLawPrefix
import Derived.Test.YtcbaiagkdphkeaaTextBack
import Derived.Test.YtcbaiagkdphkeaaSame
import Derived.Test.YtcbaiagkdphkeaaSameInts
namespace Go.Proofs.Ytcbaiagkdphkeaa
open Go.RowKit

def ImplText : Prop := ∀ (ao : Option Addr) (n cap : Nat) (xs : List Int) (so : Option Addr) (m sc : Nat) (ss : List Int) (w : World), Rd .i64 w ao n xs → Rd .i64 w so m ss → n ≤ 1048576 → m ≤ 1048576 →
  Calls Try.prog 24 #[.slice ao n cap, .slice so m sc] w fun e w' => ∃ v, e = .returned v ∧ w'.ownsRow w.heap.size 5 1 v (textG xs ss).length ((textG xs ss).map (Value.int .u8)) ∧ w.grownBy w' none
def ImplRead : Prop := ∀ (ao : Option Addr) (n cap : Nat) (xs : List Int) (bo : Option Addr) (m bc : Nat) (zs : List Int) (N : Int) (w : World), Rd .i64 w ao n xs → Rd .u8 w bo m zs → (∀ i, 0 ≤ zs.getD i 0 ∧ zs.getD i 0 ≤ 255) → n ≤ 1048576 → m ≤ 1048576 →
  Calls Try.prog 27 #[.slice ao n cap, .slice bo m bc, .int .i64 N] w fun e w' => ∃ co cc, e = .returned (.tuple #[.slice co (readG xs zs N).length cc, .bool (readB xs zs N)]) ∧ w'.ownsRow w.heap.size 3 1 (.slice co (readG xs zs N).length cc) (readG xs zs N).length ((readG xs zs N).map (Value.int .i64)) ∧ w.grownBy w' none

theorem packB_byte (bs : List Bool) (i : Nat) : 0 ≤ (packB bs).getD i 0 ∧ (packB bs).getD i 0 ≤ 255 := by
  by_cases h : i < (packB bs).length
  · rw [packB_get bs i h]; exact byteAt_bound bs _
  · rw [List.getD_eq_getElem?_getD, List.getElem?_eq_none (by omega)]; simp
theorem text_byte (xs ss : List Int) (i : Nat) : 0 ≤ (textG xs ss).getD i 0 ∧ (textG xs ss).getD i 0 ≤ 255 := by
  unfold textG
  split
  · unfold packed
    split
    · exact packB_byte _ i
    · simp
  · simp
theorem text_len (xs ss : List Int) (h : ss.length ≤ 1000) : (textG xs ss).length ≤ 2001 := by
  unfold textG
  split
  · rename_i hB
    unfold textB at hB
    rw [Bool.and_eq_true, Bool.and_eq_true] at hB
    have h1 := okF_text hB.1.1 hB.2 (by omega)
    have h2 := lens_fieldsT hB.1.1 ss hB.2
    unfold packed
    rw [if_pos h1, packB_len]
    unfold okF at h1
    rw [Bool.and_eq_true] at h1
    have h3 := allBits_lens _ h1.1
    omega
  · simp
theorem symB_of {X : List Int} {s : Int} {m : Nat} (hm : X.length = m) : symB X s = (decide (0 ≤ s ∧ s ≤ (m : Int) - 1) && decide (X.getD s.toNat 0 ≠ 0)) := by unfold symB; rw [hm]

set_option maxRecDepth 20000 in
set_option maxHeartbeats 3200000 in
theorem lawCodesBack_in (HI : ImplText) (HJ : ImplRead) (ao : Option Addr) (n cap : Nat) (zs : List Int) (w : World) (hr : Rd .u8 w ao n zs) (hb : ∀ i, 0 ≤ zs.getD i 0 ∧ zs.getD i 0 ≤ 255) (hn : n ≤ 1048576) :
    Calls Try.prog 5 #[.slice ao n cap] w fun e w' => e = .returned (.bool true) ∧ Below w.heap.size w w' := by
  have HR := hide hr
  have HB := hide hb
  have HII := hide HI
  have HJJ := hide HJ
  clear hr hb HI HJ
  go_enter Try.func5, Try.ntmps5
  go_wp2_with fail
  refine (lawBig8 ao n cap false w (by unfold Hid; simp; omega)).mono ?_
  rintro e w0 ⟨rfl, rfl⟩
  go_wp2_with fail
  refine (drawCodeText ao n cap zs w (unhide HR) (unhide HB) hn).mono ?_
  rintro e w1 ⟨so, m, sc, X, to, k, tc, S, rfl, hm1, hm2, hk, r1, t1, g1⟩
  obtain ⟨T, HT⟩ : ∃ T, Hid (textG X S = T) := ⟨_, rfl⟩
  obtain ⟨b, HLB⟩ : ∃ b, Hid (lensB X = b) := ⟨_, rfl⟩
  have HXL := hide r1.1
  have HSL := hide t1.1
  have hTl : T.length ≤ 2001 := by rw [← unhide HT]; exact text_len X S (by rw [unhide HSL]; omega)
  have HTB : Hid (∀ i, 0 ≤ T.getD i 0 ∧ T.getD i 0 ≤ 255) := by rw [← unhide HT]; exact text_byte X S
  have HR1 := hide r1
  have HS1 := hide t1
  have G1 := hide g1
  clear r1 t1 g1
  go_wp2_with fail
  refine (unhide HII so m sc X to k tc S w1 (unhide HR1) (unhide HS1) (by omega) (by omega)).mono ?_
  rw [unhide HT]
  rintro e w2 ⟨v2, rfl, o2, g2⟩
  obtain ⟨co, cc, rfl⟩ := own_form o2
  have HC2 : Hid (Rd .u8 w2 co T.length T) := own_rd o2
  have HR2 := hide ((unhide HR1).grown g2)
  have HS2 := hide ((unhide HS1).grown g2)
  have G2 := hide (grown_trans (unhide G1) g2)
  clear o2 g2 HR1 G1 HS1
  go_wp2_with fail
  refine (specCodeText so m sc X to k tc S w2 (unhide HR2) (unhide HS2)).mono ?_
  rw [unhide HT]
  rintro e w3 ⟨v3, rfl, o3, g3⟩
  obtain ⟨eo, ec, rfl⟩ := own_form o3
  have HE3 : Hid (Rd .u8 w3 eo T.length T) := own_rd o3
  have HC3 := hide ((unhide HC2).grown g3)
  have HR3 := hide ((unhide HR2).grown g3)
  have HS3 := hide ((unhide HS2).grown g3)
  have G3 := hide (grown_trans (unhide G2) g3)
  clear o3 g3 HR2 G2 HC2 HS2
  go_wp2_with fail
  refine (sameBytes co eo T.length cc ec T w3 (unhide HC3) (unhide HE3) (by omega)).mono ?_
  rintro e w4 ⟨rfl, g4⟩
  have HC4 := hide ((unhide HC3).grown g4)
  have HR4 := hide ((unhide HR3).grown g4)
  have HS4 := hide ((unhide HS3).grown g4)
  have G4 := hide (grown_trans (unhide G3) g4)
  clear g4 HR3 G3 HC3 HS3 HE3
  go_wp2_with fail
  refine (specLensOk so m sc X w4 (unhide HR4) b HLB).mono ?_
  rintro e w5 ⟨rfl, rfl⟩
  go_wp2
  go_loopw [6, 7] (fun o i wr => ∃ (c : Bool) (j : Nat), j ≤ k ∧ o = .bool c ∧ i = .int .i64 j ∧ Hid (c = (lensB X && (S.take j).all (symB X))) ∧ Hid (w5.grownBy wr none)) (fun _ i _ => k - (intOf i).toNat)
  case atStart => exact ⟨b, 0, Nat.zero_le _, rfl, rfl, by unfold Hid; rw [unhide HLB]; simp, World.grownBy.refl _ _⟩
  case round =>
    obtain ⟨c, j, hj, rfl, rfl, hc, hg⟩ := hrel
    by_cases hjk : j < k
    · have hjI : (j : Int) < (k : Int) := by omega
      have e5 := i64_in ((j : Int) + 1) (by omega)
      have hal := all_takeS (f := symB X) (xs := S) (k := j) (by rw [unhide HSL]; exact hjk)
      cases c with
      | false =>
        have HC2 : Hid (false = (lensB X && (S.take (j + 1)).all (symB X))) := by
          unfold Hid
          have h := unhide hc
          rw [hal, ← Bool.and_assoc, ← h]; rfl
        clear hal hc
        go_wp2
        go_roundw
        case rel => exact ⟨false, j + 1, by omega, rfl, by go_num, HC2, hg⟩
        case measure => simp [intOf]; omega
      | true =>
        have hLB : lensB X = true := by
          have h := unhide hc
          cases hx : lensB X with
          | true => rfl
          | false => rw [hx] at h; simp at h
        have HNX : Hid ((lensB X && (S.take (j + 1)).all (symB X)) = symB X (S.getD j 0)) := by
          unfold Hid
          have h := unhide hc
          rw [hal, ← Bool.and_assoc, ← h]; rfl
        rw [symB_of (unhide HXL)] at HNX
        obtain ⟨sb, sf, rfl, s0⟩ := ((unhide HS4).grown (unhide hg)).2 j hjk
        have HLP := hide (lens_parts hLB).2.1
        clear hal hc
        generalize S.getD j 0 = s at *
        by_cases h0 : 0 ≤ s
        · by_cases h1 : s < (m : Int)
          · obtain ⟨t, rfl⟩ := Int.eq_ofNat_of_zero_le h0
            have htm : t < m := by omega
            obtain ⟨xb, xf, rfl, x0⟩ := ((unhide HR4).grown (unhide hg)).2 t htm
            have hlp := unhide HLP t (by rw [unhide HXL]; exact htm)
            rw [Int.toNat_natCast] at HNX
            generalize X.getD t 0 = x at *
            have d0 : decide (0 ≤ (t : Int)) = true := decide_eq_true h0
            have d1 : decide ((t : Int) < (m : Int)) = true := decide_eq_true h1
            obtain ⟨c2, hc2⟩ : ∃ c2, decide (0 < x) = c2 := ⟨_, rfl⟩
            have HC2 : Hid (c2 = (lensB X && (S.take (j + 1)).all (symB X))) := by
              unfold Hid
              rw [unhide HNX, decide_eq_true (show 0 ≤ (t : Int) ∧ (t : Int) ≤ (m : Int) - 1 from ⟨h0, by omega⟩), ← hc2]
              by_cases hx : 0 < x
              · rw [decide_eq_true hx, decide_eq_true (by omega)]; rfl
              · rw [decide_eq_false hx, decide_eq_false (by omega)]; rfl
            clear HNX HLP
            go_wp2
            go_roundw
            case rel => exact ⟨c2, j + 1, by omega, rfl, by go_num, HC2, hg⟩
            case measure => simp [intOf]; omega
          · have d0 : decide (0 ≤ s) = true := decide_eq_true h0
            have d1 : decide (s < (m : Int)) = false := decide_eq_false h1
            have HC2 : Hid (false = (lensB X && (S.take (j + 1)).all (symB X))) := by
              unfold Hid
              rw [unhide HNX, decide_eq_false (by omega)]; rfl
            clear HNX HLP
            go_wp2
            go_roundw
            case rel => exact ⟨false, j + 1, by omega, rfl, by go_num, HC2, hg⟩
            case measure => simp [intOf]; omega
        · have d0 : decide (0 ≤ s) = false := decide_eq_false h0
          have HC2 : Hid (false = (lensB X && (S.take (j + 1)).all (symB X))) := by
            unfold Hid
            rw [unhide HNX, decide_eq_false (by omega)]; rfl
          clear HNX HLP
          go_wp2
          go_roundw
          case rel => exact ⟨false, j + 1, by omega, rfl, by go_num, HC2, hg⟩
          case measure => simp [intOf]; omega
    · obtain rfl : j = k := by omega
      have hct : c = (lensB X && S.all (symB X)) := by
        have h := unhide hc
        rw [← unhide HSL, List.take_length] at h
        exact h
      have HF := hide (grown_trans (unhide G4) (unhide hg))
      cases c with
      | false =>
        have hT : T = [] := by
          rw [← unhide HT, textG]
          have : textB X S = false := by
            unfold textB
            rw [Bool.and_assoc, Bool.and_comm (decide _), ← Bool.and_assoc, ← hct]; rfl
          rw [this]; rfl
        have hT0 : T.length = 0 := by rw [hT]; rfl
        have HFB := hide (grown_below (unhide HF))
        clear hct hc hT
        go_wp2
        go_ret
        exact ⟨rfl, unhide HFB⟩
      | true =>
        have hx : lensB X = true ∧ S.all (symB X) = true := by
          have h := hct.symm
          rwa [Bool.and_eq_true] at h
        have hro := text_back hx.1 hx.2 (by rw [unhide HSL]; omega)
        rw [unhide HT, unhide HSL] at hro
        have hG : readG X T (j : Int) = S := by unfold readG; rw [hro]; rfl
        have hBB : readB X T (j : Int) = true := by unfold readB; rw [hro]; rfl
        have HG := hide hG
        have HBB := hide hBB
        have HRw := hide ((unhide HR4).grown (unhide hg))
        have HCw := hide ((unhide HC4).grown (unhide hg))
        have HSw := hide ((unhide HS4).grown (unhide hg))
        clear hct hc hx hro hG hBB
        go_wp2_with fail
        refine (unhide HJJ so m sc X co T.length cc T (j : Int) wr (unhide HRw) (unhide HCw) (unhide HTB) (by omega) (by omega)).mono ?_
        rw [unhide HG, unhide HBB, unhide HSL]
        rintro e w6 ⟨ro, rc, rfl, o6, g6⟩
        have HO6 : Hid (Rd .i64 w6 ro j S) := own_rd (zs := S) (by simpa [unhide HSL] using o6)
        have HS6 := hide ((unhide HSw).grown g6)
        have HF6 := hide (grown_trans (unhide HF) g6)
        clear o6 g6
        go_wp2_with fail
        refine (sameInts ro to j rc tc S w6 (unhide HO6) (unhide HS6) (by omega)).mono ?_
        rintro e w7 ⟨rfl, g7⟩
        have HF7 := hide (grown_below (grown_trans (unhide HF6) g7))
        clear g7
        go_wp2
        go_ret
        exact ⟨rfl, unhide HF7⟩

set_option maxRecDepth 20000 in
theorem lawCodesBack (HI : ImplText) (HJ : ImplRead) (ao : Option Addr) (n cap : Nat) (zs : List Int) (w : World) (hr : Rd .u8 w ao n zs) (hb : ∀ i, 0 ≤ zs.getD i 0 ∧ zs.getD i 0 ≤ 255) :
    Calls Try.prog 5 #[.slice ao n cap] w fun e w' => e = .returned (.bool true) ∧ Below w.heap.size w w' := by
  by_cases hn : n ≤ 1048576
  · exact lawCodesBack_in HI HJ ao n cap zs w hr hb hn
  · clear hr hb
    go_enter Try.func5, Try.ntmps5
    go_wp2_with fail
    refine (lawBig8 ao n cap true w (by unfold Hid; simp; omega)).mono ?_
    rintro e w0 ⟨rfl, rfl⟩
    go_wp2
    go_ret
    exact ⟨rfl, grown_below (World.grownBy.refl _ _)⟩

end Go.Proofs.Ytcbaiagkdphkeaa
