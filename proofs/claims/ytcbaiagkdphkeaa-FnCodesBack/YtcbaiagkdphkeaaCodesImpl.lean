/-
  Codes in the program.
-/
import Derived.Test.YtcbaiagkdphkeaaCodesSpec
import Derived.Test.YtcbaiagkdphkeaaCodeImpl
namespace Go.Proofs.Ytcbaiagkdphkeaa
open Go.RowKit

set_option maxRecDepth 20000 in
set_option maxHeartbeats 3200000 in
theorem implCodesOf (ao : Option Addr) (n cap : Nat) (xs : List Int) (w : World) (hr : Rd .i64 w ao n xs) (hn0 : n ≤ 1048576) :
    Calls Try.prog 11 #[.slice ao n cap] w fun e w' => ∃ v, e = .returned v ∧ w'.ownsRow w.heap.size 30 2 v (codesG xs).length (flat (codesG xs)) ∧ w.grownBy w' none := by
  have hl := hr.1
  have HR := hide hr
  clear hr
  obtain ⟨b, HB⟩ : ∃ b, Hid (lensB xs = b) := ⟨_, rfl⟩
  cases b with
  | false =>
    have e : codesG xs = [] := by rw [codesG, unhide HB]; rfl
    rw [e]
    go_enter Try.func11, Try.ntmps11
    go_wp2_with fail
    refine (implLensOk ao n cap xs w (unhide HR) hn0 false HB).mono ?_
    rintro e w1 ⟨rfl, rfl⟩
    go_wp2
    go_ret
    exact ⟨_, rfl, ⟨rfl, .inl ⟨rfl, rfl⟩⟩, World.grownBy.refl _ _⟩
  | true =>
    have hn : n ≤ 256 := by have := (lens_parts (unhide HB)).1; omega
    have HEND := hide (codL_end (unhide HB))
    have HFIT := hide (codes_fit (unhide HB))
    obtain ⟨R, HRR⟩ : ∃ R, Hid (codesG xs = R) := ⟨_, rfl⟩
    have HRL : Hid (R.length = n) := by unfold Hid; rw [← unhide HRR, codes_len (unhide HB), hl]
    rw [unhide HRR] at HEND
    rw [unhide HRR]
    obtain ⟨i0, hi, hz0, hz1, hz2⟩ := info_parts Try.info30
    have HL := hide hl
    clear hl
    go_enter Try.func11, Try.ntmps11
    go_wp2_with fail
    refine (implLensOk ao n cap xs w (unhide HR) hn0 true HB).mono ?_
    rintro e w1 ⟨rfl, rfl⟩
    go_wp2_with (at_make; refine wpList_make_full _ rfl _ _ 26 rfl w1.heap.size 30 i0 (.agg #[.int .i64 0, .int .i64 0]) 2 Try.underlying26 hi hz0 hz1 .i64 .i64 _ _ n rfl rfl rfl rfl (by rw [hz2]; omega) (by unfold maxLen; omega) (Nat.le_refl _) ?_)
    intro w2 hown hgrow
    have HO2 : Hid (w2.ownsRow w1.heap.size 30 2 (.slice (some ⟨w1.heap.size, 0, none⟩) n n) n (flat (codL xs 1 0))) := by
      unfold Hid
      rw [codL_start, unhide HL]
      rw [flat_zero, ← madeFields]
      exact hown
    have HG2 := hide hgrow
    have HRW := hide ((unhide HR).grown hgrow)
    have hs2 : w1.heap.size < w2.heap.size := (hown.lt _ rfl).2
    clear hown hgrow hi hz0 hz1 hz2
    go_wp2
    go_loopw [4, 5] (fun nx lv wr => ∃ (L N : Nat), 1 ≤ L ∧ L ≤ 17 ∧ N ≤ 65536 ∧ lv = .int .i64 L ∧ nx = .int .i64 N ∧ Hid (2 * N = firstC xs L) ∧ Hid (wr.ownsRow w1.heap.size 30 2 (.slice (some ⟨w1.heap.size, 0, none⟩) n n) n (flat (codL xs L 0))) ∧ Hid (w1.grownBy wr none)) (fun _ lv _ => 17 - (intOf lv).toNat)
    case atStart => exact ⟨1, 0, Nat.le_refl _, by omega, by omega, rfl, rfl, rfl, HO2, HG2⟩
    case round =>
      clear HO2 HG2
      obtain ⟨L, N, hL1, hL, hN, rfl, rfl, hF, ho, hg⟩ := hrel
      obtain ⟨wo, rfl⟩ : ∃ wo, wo = wr := ⟨wr, rfl⟩
      by_cases hLt : L ≤ 16
      · have hd1 : decide ((L : Int) ≤ 16) = true := decide_eq_true (by omega)
        have e2 := i64_in ((N : Int) * 2) (by omega)
        have e3 := i64_in ((L : Int) + 1) (by omega)
        have hfit := unhide HFIT L hL1 hLt
        have hpw : 2 ^ L ≤ 65536 := by
          have : 2 ^ L ≤ 2 ^ 16 := Nat.pow_le_pow_right (by omega) hLt
          omega
        have HN2 : Hid (∀ S, S ≤ n → firstC xs L + cntL (xs.take S) L ≤ 65536) := fun S hS => by
          have h1 := cntL_mono xs L (n - S) S (by rw [unhide HL]; omega)
          have e : S + (n - S) = xs.length := by rw [unhide HL]; omega
          rw [e, List.take_length] at h1
          omega
        have HNE : Hid (2 * (firstC xs L + cntL xs L) = firstC xs (L + 1)) := by
          unfold Hid
          show _ = 2 * (firstC xs L + (if L = 0 then 0 else cntL xs L))
          rw [if_neg (by omega)]
        have HF0 : Hid (2 * N = firstC xs L + cntL (xs.take 0) L) := by unfold Hid; rw [unhide hF]; rfl
        obtain ⟨N2, hN2⟩ : ∃ N2, 2 * N = N2 := ⟨_, rfl⟩
        have hN2I : (N : Int) * 2 = (N2 : Int) := by omega
        rw [hN2] at HF0
        clear hF hfit hpw
        go_wp2
        go_loopw [4, 22] (fun nx sv wv => ∃ (S Q : Nat), S ≤ n ∧ Q ≤ 65536 ∧ sv = .int .i64 S ∧ nx = .int .i64 Q ∧ Hid (Q = firstC xs L + cntL (xs.take S) L) ∧ Hid (wv.ownsRow w1.heap.size 30 2 (.slice (some ⟨w1.heap.size, 0, none⟩) n n) n (flat (codL xs L S))) ∧ Hid (w1.grownBy wv none)) (fun _ sv _ => n - (intOf sv).toNat)
        case atStart => exact ⟨0, N2, Nat.zero_le _, by rw [unhide HF0]; exact unhide HN2 0 (Nat.zero_le _), rfl, by first | rfl | (rw [hN2I]), HF0, ho, hg⟩
        case round =>
          clear ho hg HF0
          obtain ⟨S, Q, hS, hQ, rfl, rfl, hQF, hos, hgs⟩ := hrel
          by_cases hSn : S < n
          · have hd2 : decide ((S : Int) < (n : Int)) = true := decide_eq_true (by omega)
            obtain ⟨fb, fo, rfl, hcx⟩ := ((unhide HR).grown (unhide hgs)).2 S hSn
            have hct := cntL_take xs L S (by rw [unhide HL]; exact hSn)
            have hnb := unhide HN2 (S + 1) (by omega)
            have hset := fun h => codL_set xs L S (by rw [unhide HL]; exact hSn) hL1 h
            have hskip := codL_skip xs L S
            have e4 := i64_in ((S : Int) + 1) (by omega)
            have e5 := i64_in ((Q : Int) + 1) (by omega)
            have hSI : (S : Int) < (n : Int) := by omega
            generalize xs.getD S 0 = x at *
            by_cases hx : x = (L : Int)
            · have hxL : (x == (L : Int)) = true := by rw [hx]; simp
              rw [if_pos hx] at hct
              have hst1 := hset hx
              rw [← unhide hQF] at hst1
              have HQ2 : Hid (Q + 1 = firstC xs L + cntL (xs.take (S + 1)) L) := by unfold Hid; rw [hct, unhide hQF]; omega
              have hQ1 : Q + 1 ≤ 65536 := by rw [unhide HQ2]; exact hnb
              have hfs := flat_set (codL xs L S) S (L : Int) (Q : Int) (by rw [codL_len, unhide HL]; exact hSn)
              rw [hst1] at hfs
              have f0 := (unhide hos).frozenAt (S * 2)
              have f1 := (unhide hos).frozenAt (S * 2 + 1)
              have hold : ∀ j, j < n * 2 → ∃ u, wr.cell? ⟨w1.heap.size, j, none⟩ = some u := fun j hj => by rw [(unhide hos).cellAt j hj]; exact ⟨_, List.getElem?_eq_getElem (by rw [(unhide hos).1]; omega)⟩
              obtain ⟨v0, hv0⟩ := hold (S * 2) (by omega)
              obtain ⟨v1, hv1⟩ := hold (S * 2 + 1) (by omega)
              have s0 := (unhide hos).stored (S * 2) (.int .i64 (L : Int))
              have s1 := s0.1.stored (S * 2 + 1) (.int .i64 (Q : Int))
              have HG := hide (grown_new (unhide hgs) (grown_trans s0.2 s1.2) (by intro g e; simp at e; omega))
              have HST := hide s1.1
              rw [hfs] at HST
              clear s0 s1 hos hgs hold hfs hst1 hset hskip hct hQF hnb hx
              go_wp2
              go_roundw
              case rel => exact ⟨S + 1, Q + 1, by omega, hQ1, by go_num, by go_num, HQ2, HST, HG⟩
              case measure => simp [intOf]; omega
            · have hxL : (x == (L : Int)) = false := beq_false_of_ne hx
              rw [if_neg hx] at hct
              have HQ2 : Hid (Q = firstC xs L + cntL (xs.take (S + 1)) L) := by have h1 := unhide hQF; unfold Hid; omega
              have hsk := hskip hx
              have HST := hos
              rw [hsk] at HST
              clear hset hskip hct hQF hnb hsk hos
              go_wp2
              go_roundw
              case rel => exact ⟨S + 1, Q, by omega, hQ, by go_num, rfl, HQ2, HST, hgs⟩
              case measure => simp [intOf]; omega
          · obtain rfl : S = n := by omega
            have hQ3 := unhide hQF
            rw [← unhide HL, List.take_length] at hQ3
            have HQ3 : Hid (2 * Q = firstC xs (L + 1)) := by unfold Hid; rw [hQ3]; exact unhide HNE
            have hnx := codL_next xs L
            rw [unhide HL] at hnx
            have HOX := hos
            rw [hnx] at HOX
            clear hnx hos hQF hQ3
            go_wp2
            go_roundw
            case rel => exact ⟨L + 1, Q, by omega, by omega, hQ, by go_num, rfl, HQ3, HOX, hgs⟩
            case measure => simp [intOf]; omega
      · have hLe : L = 17 := by omega
        have hd1 : decide ((L : Int) ≤ 16) = false := decide_eq_false (by omega)
        have HOX := ho
        rw [hLe, unhide HEND] at HOX
        clear ho hLe
        go_wp2
        go_ret
        exact ⟨_, rfl, by rw [unhide HRL]; exact unhide HOX, unhide hg⟩

end Go.Proofs.Ytcbaiagkdphkeaa
