/-
  The walk of the law that lists are got back from their items, over what the program's two functions do.
-/
import Derived.Test.YtmomfopbdpgcgaaLawNums
import Derived.Test.YtmomfopbdpgcgaaRunDraw3
import Derived.Test.YtmomfopbdpgcgaaRunDraw6
import Derived.Test.YtmomfopbdpgcgaaRunSpec5
import Derived.Test.YtmomfopbdpgcgaaSameInts
namespace Go.Proofs.Ytmomfopbdpgcgaa
open Go.RowKit

/-- What the program's functions do. -/
def ImplRuns : Prop := ∀ (so : Option Addr) (m sc : Nat) (ys : List Int) (w : World), Rd .i64 w so m ys → m ≤ 4194304 → Calls Try.prog 17 #[.slice so m sc] w fun e w' => ∃ v, e = .returned v ∧ w'.ownsRow w.heap.size 52 3 v (runsG ys).length (itCells (runsG ys)) ∧ w.grownBy w' none

def ImplFrom : Prop := ∀ (io : Option Addr) (m ic : Nat) (I : List It) (w : World), RdT w io m I → ∀ (z : Int) (ys : List Int) (ok : Bool), fromG I z = (ys, ok) → Calls Try.prog 19 #[.slice io m ic, .int .i64 z] w fun e w' => ∃ v, e = .returned (.tuple #[v, .bool ok]) ∧ w'.ownsRow w.heap.size 3 1 v ys.length (ys.map (Value.int .i64)) ∧ w.grownBy w' none

theorem from_len {I : List It} {z : Int} {ys : List Int} {ok : Bool} (h : fromG I z = (ys, ok)) : ys.length ≤ 4194304 := by
  unfold fromG at h
  split at h
  · rename_i hh
    simp only [Prod.mk.injEq] at h
    rw [← h.1, hh.2.2.1]
    omega
  · simp only [Prod.mk.injEq] at h
    rw [← h.1]; simp
theorem runsG_le (xs : List Int) : (runsG xs).length ≤ xs.length := by
  unfold runsG
  split
  · have := runsGo_len 0 xs; omega
  · simp

set_option maxRecDepth 20000 in
set_option maxHeartbeats 3200000 in
theorem lawRunsBack_in (HIR : Hid ImplRuns) (HIF : Hid ImplFrom) (ao bo : Option Addr) (n cap nb capb : Nat) (zs ys : List Int) (w : World) (hr : Rd .u8 w ao n zs) (hb : ∀ i, 0 ≤ zs.getD i 0 ∧ zs.getD i 0 ≤ 255) (hn : n ≤ 1048576)
    (hr2 : Rd .u8 w bo nb ys) (hb2 : ∀ i, 0 ≤ ys.getD i 0 ∧ ys.getD i 0 ≤ 255) (hn2 : nb ≤ 1048576) :
    Calls Try.prog 4 #[.slice ao n cap, .slice bo nb capb] w fun e w' => e = .returned (.bool true) ∧ Below w.heap.size w w' := by
  have HR := hide hr
  have HB := hide hb
  have HR2w := hide hr2
  have HB2 := hide hb2
  clear hr hb hr2 hb2
  go_enter Try.func4, Try.ntmps4
  go_wp2_with fail
  refine (lawBig7 ao n cap false w (by unfold Hid; simp; omega)).mono ?_
  rintro e w0 ⟨rfl, rfl⟩
  go_wp2_with fail
  refine (lawBig7 bo nb capb false w (by unfold Hid; simp; omega)).mono ?_
  rintro e w0 ⟨rfl, rfl⟩
  go_wp2_with fail
  refine (drawRunsOf ao n cap zs w (unhide HR) (unhide HB) hn).mono ?_
  rintro e w1 ⟨so, m, sc, xs, rfl, hm, hx, g1⟩
  have hxl := hx.1
  have HX1 := hide hx
  have G1 := hide g1
  clear hx g1 HR HB
  go_wp2_with fail
  refine (unhide HIR so m sc xs w1 (unhide HX1) (by omega)).mono ?_
  have hle := runsG_le xs
  have hfrom := from_runs (xs := xs)
  obtain ⟨R, hRR⟩ : ∃ R, runsG xs = R := ⟨_, rfl⟩
  rw [hRR] at hle hfrom
  rw [hRR]
  rintro e w2 ⟨v, rfl, o2, g2⟩
  obtain ⟨ro, rc, rfl⟩ := own_form o2
  have O2 := hide o2
  have HX2 := hide ((unhide HX1).grown g2)
  have G2 := hide (grown_trans (unhide G1) g2)
  clear o2 g2 HX1 G1
  go_wp2_with fail
  refine (specRunsOf so m sc xs w2 (unhide HX2)).mono ?_
  rw [hRR]
  rintro e w3 ⟨v, rfl, o3, g3⟩
  obtain ⟨r3, c3, rfl⟩ := own_form o3
  have O3 := hide (own_grown (unhide O2) g3)
  have HX3 := hide ((unhide HX2).grown g3)
  have G3 := hide (grown_trans (unhide G2) g3)
  have hnR : ((R.length : Int) != (R.length : Int)) = false := by simp
  have hdR : decide (m < R.length) = false := decide_eq_false (by omega)
  have HFR := hide hfrom
  have HXL := hide hxl
  clear o3 g3 O2 HX2 G2 hRR hfrom hxl hle
  go_wp2
  go_loopw [8, 9] (fun o i wr => ∃ (k : Nat) (t : Bool), k ≤ m ∧ i = .int .i64 k ∧ o = .bool t ∧ Hid (t = (decide (m ≤ 64) && (xs.take k).all coefB)) ∧ wr = w3) (fun _ i _ => m - (intOf i).toNat)
  case atStart => exact ⟨0, _, Nat.zero_le _, rfl, rfl, by unfold Hid; rw [List.take_zero, List.all_nil, Bool.and_true, decide_eq_decide]; omega, rfl⟩
  case round =>
    obtain ⟨k, t, hk, rfl, rfl, ht, rfl⟩ := hrel
    by_cases hlt : k < m
    · have hal := all_at (f := coefB) (xs := xs) (k := k) (by have := unhide HXL; omega)
      obtain ⟨bb, off, rfl, hc⟩ := (unhide HX3).2 k hlt
      generalize xs.getD k 0 = x at *
      cases t with
      | false =>
        have HT : Hid (false = (decide (m ≤ 64) && (xs.take (k + 1)).all coefB)) := by
          have h := unhide ht
          unfold Hid
          rw [hal, ← Bool.and_assoc, ← h]; rfl
        clear ht hal
        go_wp2
        go_roundw
        case rel => exact ⟨k + 1, false, by omega, by go_num, rfl, HT, trivial⟩
        case measure => simp [intOf]; omega
      | true =>
        obtain ⟨c, HC⟩ : ∃ c, Hid (classI x = c) := ⟨_, rfl⟩
        have hcx : decide (0 ≤ c) = coefB x := by
          cases hx : coefB x with
          | true => exact decide_eq_true (by have := (class_bounds hx).1; rw [unhide HC] at this; exact this)
          | false => exact decide_eq_false (by have : c = -1 := by rw [← unhide HC, classI, hx]; rfl
                                               omega)
        have HT : Hid (coefB x = (decide (m ≤ 64) && (xs.take (k + 1)).all coefB)) := by
          have h := unhide ht
          unfold Hid
          rw [hal, ← Bool.and_assoc, ← h]; rfl
        have hkI : (k : Int) < (m : Int) := by omega
        clear ht hal
        go_wp2_with fail
        refine (specClassOf x c HC wr).mono ?_
        rintro e w4 ⟨rfl, rfl⟩
        go_wp2
        go_roundw
        case rel => exact ⟨k + 1, coefB x, by omega, by go_num, by first | rfl | rw [hcx], HT, trivial⟩
        case measure => simp [intOf]; omega
    · obtain rfl : m = k := by omega
      have htc : t = coefsB xs := by
        have h := unhide ht
        have hl := unhide HXL
        rw [← hl, List.take_length] at h
        exact h
      have HR2x := hide ((unhide HR2w).grown (unhide G3))
      cases t with
      | false =>
        have GT := G3
        have HR2 := HR2x
        clear ht htc
        go_wp2_with fail
        refine (drawFromRuns bo nb capb ys wr (unhide HR2) (unhide HB2) hn2).mono ?_
        rintro e w7 ⟨io, im, ic, I, z, rfl, him, hz, hI7, g7⟩
        have HI7 := hide hI7
        have G7 := hide (grown_trans (unhide GT) g7)
        clear hI7 g7
        obtain ⟨ps, HPS⟩ : ∃ ps, Hid (fromG I z = ps) := ⟨_, rfl⟩
        obtain ⟨rs, ok2⟩ := ps
        have hrl : rs.length ≤ 4194304 := from_len (unhide HPS)
        go_wp2_with fail
        refine (unhide HIF io im ic I w7 (unhide HI7) z rs ok2 HPS).mono ?_
        rintro e w8 ⟨va, rfl, o8, g8⟩
        obtain ⟨a8, c8, rfl⟩ := own_form o8
        have O8 := hide o8
        have G8 := hide (grown_trans (unhide G7) g8)
        have HI8 := hide ((unhide HI7).grown g8)
        clear o8 g8
        go_wp2_with fail
        refine (specFromRuns io im ic I w8 (unhide HI8) z rs ok2 HPS).mono ?_
        rintro e w9 ⟨vb, rfl, o9, g9⟩
        obtain ⟨a9, c9, rfl⟩ := own_form o9
        have O9 := hide (own_rd o9)
        have O8' := hide (own_rd (own_grown (unhide O8) g9))
        have G9 := hide (grown_trans (unhide G8) g9)
        have hok : (ok2 == ok2) = true := by simp
        clear o9 g9 O8 G8 HI8 HI7 G7
        go_wp2_with fail
        refine (sameInts a8 a9 rs.length _ _ rs w9 (unhide O8') (unhide O9) hrl).mono ?_
        rintro e w10 ⟨rfl, g10⟩
        have G10 := hide (grown_trans (unhide G9) g10)
        clear g10
        go_wp2
        go_ret
        exact ⟨rfl, grown_below (unhide G10)⟩
      | true =>
        have hfr := unhide HFR htc.symm
        rw [unhide HXL] at hfr
        have HFX := hide hfr
        clear ht htc hfr
        obtain ⟨O3o, hO3⟩ : ∃ z : Int, z = (m : Int) := ⟨_, rfl⟩
        go_wp2_with fail
        refine (unhide HIF ro R.length rc R wr (own_rdT (unhide O3)) (m : Int) xs true HFX).mono ?_
        rintro e w4 ⟨v4, rfl, o4, g4⟩
        obtain ⟨a4, c4, rfl⟩ := own_form o4
        have hl := unhide HXL
        rw [hl] at o4
        rw [hl]
        have O4 := hide (own_rd o4)
        have HX4 := hide ((unhide HX3).grown g4)
        have G4 := hide (grown_trans (unhide G3) g4)
        clear o4 g4 hl hO3
        go_wp2_with fail
        refine (sameInts a4 so m _ _ xs w4 (unhide O4) (unhide HX4) (by omega)).mono ?_
        rintro e w5 ⟨rfl, g5⟩
        have GT := hide (grown_trans (unhide G4) g5)
        have HR2 := hide ((unhide HR2w).grown (unhide GT))
        clear g5
        go_wp2_with fail
        refine (drawFromRuns bo nb capb ys w5 (unhide HR2) (unhide HB2) hn2).mono ?_
        rintro e w7 ⟨io, im, ic, I, z, rfl, him, hz, hI7, g7⟩
        have HI7 := hide hI7
        have G7 := hide (grown_trans (unhide GT) g7)
        clear hI7 g7
        obtain ⟨ps, HPS⟩ : ∃ ps, Hid (fromG I z = ps) := ⟨_, rfl⟩
        obtain ⟨rs, ok2⟩ := ps
        have hrl : rs.length ≤ 4194304 := from_len (unhide HPS)
        go_wp2_with fail
        refine (unhide HIF io im ic I w7 (unhide HI7) z rs ok2 HPS).mono ?_
        rintro e w8 ⟨va, rfl, o8, g8⟩
        obtain ⟨a8, c8, rfl⟩ := own_form o8
        have O8 := hide o8
        have G8 := hide (grown_trans (unhide G7) g8)
        have HI8 := hide ((unhide HI7).grown g8)
        clear o8 g8
        go_wp2_with fail
        refine (specFromRuns io im ic I w8 (unhide HI8) z rs ok2 HPS).mono ?_
        rintro e w9 ⟨vb, rfl, o9, g9⟩
        obtain ⟨a9, c9, rfl⟩ := own_form o9
        have O9 := hide (own_rd o9)
        have O8' := hide (own_rd (own_grown (unhide O8) g9))
        have G9 := hide (grown_trans (unhide G8) g9)
        have hok : (ok2 == ok2) = true := by simp
        clear o9 g9 O8 G8 HI8 HI7 G7
        go_wp2_with fail
        refine (sameInts a8 a9 rs.length _ _ rs w9 (unhide O8') (unhide O9) hrl).mono ?_
        rintro e w10 ⟨rfl, g10⟩
        have G10 := hide (grown_trans (unhide G9) g10)
        clear g10
        go_wp2
        go_ret
        exact ⟨rfl, grown_below (unhide G10)⟩

end Go.Proofs.Ytmomfopbdpgcgaa
