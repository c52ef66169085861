/-
  EncodeBins of the program.
-/
import Derived.Test.YtekidfkahpaokaaEncImpl4
namespace Go.Proofs.Ytekidfkahpaokaa
open Go.RowKit

set_option maxRecDepth 20000 in
set_option maxHeartbeats 3200000 in
theorem implEncode (ao : Option Addr) (n cap : Nat) (fs : List (Int × Int)) (w : World) (hr : RdF w ao n fs) :
    Calls Try.prog 14 #[.slice ao n cap] w fun e w' => ∃ bo cap', e = .returned (.slice bo (encG fs).length cap') ∧ w'.ownsRow w.heap.size 5 1 (.slice bo (encG fs).length cap') (encG fs).length ((encG fs).map (Value.int .u8)) ∧ w.grownBy w' none := by
  have hl := hr.1
  have HOK := hide (implBinsOk ao n cap fs w hr)
  have HR := hide hr
  clear hr
  obtain ⟨R, HRR⟩ : ∃ R, Hid (encG fs = R) := ⟨_, rfl⟩
  rw [unhide HRR]
  obtain ⟨t, HT⟩ : ∃ t, Hid (binsB fs = t) := ⟨_, rfl⟩
  rw [unhide HT] at HOK
  have HL := hide hl
  clear hl
  cases t with
  | false =>
    have hR0 : R = [] := by rw [← unhide HRR, encG, unhide HT]; rfl
    subst hR0
    go_enter Try.func14, Try.ntmps14
    go_wp2_with fail
    refine (unhide HOK).mono ?_
    rintro e w1 ⟨rfl, g1⟩
    have HG1 := hide g1
    clear g1 HOK
    go_wp2
    go_ret
    exact ⟨none, 0, rfl, ⟨rfl, .inl ⟨rfl, rfl⟩⟩, unhide HG1⟩
  | true =>
    have hbb := unhide HT
    unfold binsB at hbb
    rw [Bool.and_eq_true] at hbb
    have hn : n ≤ 200000 := by rw [← unhide HL]; exact of_decide_eq_true hbb.1
    have HALL := hide hbb.2
    have HRE : Hid (R = (endE (bitsE like0 en0 (binsN fs))).out.reverse.map (fun x : Nat => (x : Int))) := by
      unfold Hid
      rw [← unhide HRR, encG, unhide HT]; rfl
    clear hbb
    go_enter Try.func14, Try.ntmps14
    go_wp2_with fail
    refine (unhide HOK).mono ?_
    rintro e w0 ⟨rfl, g0⟩
    have HG0 := hide g0
    clear g0 HOK
    go_wp2_with fail
    refine (implNewEnc w0).mono ?_
    rintro e w1 ⟨ob, u, rfl, hw1⟩
    have HOW1 := hide hw1
    have HBS0 : Hid (bitsE like0 en0 (binsN fs) = bitsE (fun y => (List.replicate 400 2048).getD y 2048) en0 (binsN (fs.drop 0))) := by
      unfold Hid
      rw [List.drop_zero]
      congr 1
      funext y
      rw [like_zero]; rfl
    clear hw1
    go_wp2
    go_loopw [12] (fun iv wr => ∃ (k : Nat) (u' : Value) (P : List Nat) (s : En), k ≤ n ∧ iv = .int .i64 k ∧ Hid (Ce w0 ob wr u' P s) ∧ Hid (OkE s) ∧ Hid (P.length = 400) ∧ Hid (okPs (fun y => P.getD y 2048)) ∧ Hid (s.out.length ≤ k) ∧ Hid (bitsE like0 en0 (binsN fs) = bitsE (fun y => P.getD y 2048) s (binsN (fs.drop k)))) (fun iv _ => n - (intOf iv).toNat)
    case atStart => exact ⟨0, u, List.replicate 400 2048, en0, Nat.zero_le _, rfl, HOW1, start_ok, by unfold Hid; simp, fun y => by dsimp only; rw [like_zero]; exact ⟨by decide, by decide⟩, Nat.le_refl _, HBS0⟩
    case round =>
      clear HOW1 HBS0
      obtain ⟨k, u', P, s, hk, rfl, how, hoks, hPl, hoP, hsl, hbs⟩ := hrel
      by_cases hkn : k < n
      · obtain ⟨fb, fo, rfl, c0, c1⟩ := ((unhide HR).grown (grown_trans (unhide HG0) (unhide how).grown)).2 k hkn
        have hks : k < fs.length := by rw [unhide HL]; exact hkn
        have hbb := all_bins (unhide HALL) k hks
        have hdr := bins_drop hks
        have hkI : (k : Int) < (n : Int) := by omega
        generalize fs.getD k (0, 0) = x at *
        obtain ⟨p, q⟩ := x
        dsimp only at c0 c1 hbb hdr
        obtain ⟨c, rfl⟩ := Int.eq_ofNat_of_zero_le hbb.1.1
        obtain ⟨b, rfl⟩ := Int.eq_ofNat_of_zero_le hbb.2.1
        rw [Int.toNat_natCast, Int.toNat_natCast] at hdr
        have hc4 : c < 400 := by omega
        have hc5 : c < P.length := by rw [unhide hPl]; exact hc4
        have HPU := hide (implPut ((unhide how).drewN (World.grownBy_alloc wr (.cells #[.int .i64 (c : Int), .int .i64 (b : Int)] 30) none)) (unhide hoks) c b hc4 (by omega) (unhide hoP c) (by have := unhide hsl; omega))
        have HOK2 : Hid (OkE (putE s (P.getD c 2048) b)) := put_ok (unhide hoks) (unhide hoP c) b
        have HPL2 : Hid ((P.set c (learnN (P.getD c 2048) b)).length = 400) := by unfold Hid; rw [List.length_set]; exact unhide hPl
        have HOP2 : Hid (okPs (fun y => (P.set c (learnN (P.getD c 2048) b)).getD y 2048)) := by
          unfold Hid
          rw [like_set hc5]
          exact okPs_learn (unhide hoP) c b
        have HSL2 : Hid ((putE s (P.getD c 2048) b).out.length ≤ k + 1) := by have := put_len1 s (P.getD c 2048) b; have := unhide hsl; unfold Hid; omega
        have HBS2 : Hid (bitsE like0 en0 (binsN fs) = bitsE (fun y => (P.set c (learnN (P.getD c 2048) b)).getD y 2048) (putE s (P.getD c 2048) b) (binsN (fs.drop (k + 1)))) := by
          unfold Hid
          rw [unhide hbs, hdr, like_set hc5]; rfl
        clear hbb hdr hc4 hc5 hoks hPl hoP hsl hbs
        generalize P.set c (learnN (P.getD c 2048) b) = P2 at *
        generalize putE s (P.getD c 2048) b = s2 at *
        go_wp2_with fail
        refine (unhide HPU).mono ?_
        rintro e w5 ⟨rfl, u5, hw5⟩
        have HW5 := hide hw5
        clear hw5 how HPU c0 c1
        go_wp2
        go_roundw
        case rel => exact ⟨k + 1, u5, P2, s2, by omega, by go_num, HW5, HOK2, HPL2, HOP2, HSL2, HBS2⟩
        case measure => simp [intOf]; omega
      · obtain rfl : k = n := by omega
        have hbs2 := unhide hbs
        have hdn : fs.drop k = [] := List.drop_eq_nil_of_le (by rw [unhide HL]; exact Nat.le_refl _)
        rw [hdn] at hbs2
        have HSE : Hid (bitsE like0 en0 (binsN fs) = s) := hbs2
        have hokl : OkL s := ⟨by have := (unhide hoks).low; omega, (unhide hoks).bytes, by have h1 := (unhide hoks).room; have h2 := (unhide hoks).lo; omega⟩
        have HEN := hide (implFinish (unhide how) hokl (by have := unhide hsl; omega))
        clear hbs2 hdn hbs hoks hPl hoP hokl
        go_wp2_with fail
        refine (unhide HEN).mono ?_
        rintro e w6 ⟨u6, rfl, hw6⟩
        obtain ⟨uo, uc, rfl⟩ := own_form hw6.own
        have HF : Hid (w6.ownsRow w.heap.size 5 1 (.slice uo R.length uc) R.length (R.map (Value.int .u8)) ∧ w.grownBy w6 none) := by
          have h1 := hw6.own
          have hR := unhide HRE
          rw [unhide HSE] at hR
          have hRl : R.length = (endE s).out.length := by rw [hR]; simp
          rw [bCells_ints, ← hR, ← hRl] at h1
          exact ⟨own_base h1 (unhide HG0).size, grown_trans (unhide HG0) hw6.grown⟩
        have hRl : R.length = (endE s).out.length := by rw [unhide HRE, unhide HSE]; simp
        rw [← hRl]
        clear hw6 HEN how hRl hsl
        go_wp2
        go_ret
        exact ⟨uo, uc, rfl, (unhide HF).1, (unhide HF).2⟩

end Go.Proofs.Ytekidfkahpaokaa
