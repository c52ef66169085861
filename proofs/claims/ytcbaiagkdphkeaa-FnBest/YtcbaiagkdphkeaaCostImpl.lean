/-
  What lens cost, in the program.
-/
import Derived.Test.YtcbaiagkdphkeaaCostSpec
import Derived.Test.YtcbaiagkdphkeaaCodeImpl
namespace Go.Proofs.Ytcbaiagkdphkeaa
open Go.RowKit

set_option maxRecDepth 20000 in
set_option maxHeartbeats 3200000 in
theorem implCostOf (ao : Option Addr) (n cap : Nat) (fs : List Int) (bo : Option Addr) (m capb : Nat) (ls : List Int) (w : World) (hr : Rd .i64 w ao n fs) (hs : Rd .i64 w bo m ls) (hn0 : n ≤ 1048576) (hm0 : m ≤ 1048576) (z : Int) (HZ : Hid (costG fs ls = z)) :
    Calls Try.prog 19 #[.slice ao n cap, .slice bo m capb] w fun e w' => e = .returned (.int .i64 z) ∧ w.grownBy w' none := by
  have hl := hr.1
  have hl2 := hs.1
  have HF := hide hr
  have HS := hide hs
  clear hr hs
  obtain ⟨b1, HB1⟩ : ∃ b, Hid (freqsB fs = b) := ⟨_, rfl⟩
  obtain ⟨b2, HB2⟩ : ∃ b, Hid (lensB ls = b) := ⟨_, rfl⟩
  cases b1 with
  | false =>
    have e : z = -1 := by rw [← unhide HZ]; exact cost_no (by rw [costB, unhide HB1]; rfl)
    subst e
    go_enter Try.func19, Try.ntmps19
    go_wp2_with fail
    refine (implPer ao n cap fs w (unhide HF) hn0 1000000 false HB1).mono ?_
    rintro e w1 ⟨rfl, rfl⟩
    go_wp2
    go_ret
    exact ⟨rfl, World.grownBy.refl _ _⟩
  | true =>
    cases b2 with
    | false =>
      have e : z = -1 := by rw [← unhide HZ]; exact cost_no (by rw [costB, unhide HB2, Bool.and_false]; rfl)
      subst e
      go_enter Try.func19, Try.ntmps19
      go_wp2_with fail
      refine (implPer ao n cap fs w (unhide HF) hn0 1000000 true HB1).mono ?_
      rintro e w1 ⟨rfl, rfl⟩
      go_wp2_with fail
      refine (implLensOk bo m capb ls w1 (unhide HS) hm0 false HB2).mono ?_
      rintro e w2 ⟨rfl, rfl⟩
      go_wp2
      go_ret
      exact ⟨rfl, World.grownBy.refl _ _⟩
    | true =>
      by_cases hnm : n = m
      · subst hnm
        have hnn : ((n : Int) != (n : Int)) = false := by simp
        obtain ⟨hfl, hfb, _⟩ := freqs_parts (unhide HB1)
        have hlb : ∀ i, i < ls.length → 0 ≤ ls.getD i 0 ∧ ls.getD i 0 ≤ 16 := by
          have h := unhide HB2
          unfold lensB at h
          rw [Bool.and_eq_true, Bool.and_eq_true] at h
          exact fun i hi => of_decide_eq_true (all_get h.1.2 i hi)
        have hn : n ≤ 256 := by omega
        have HFB := hide hfb
        have HLB := hide hlb
        clear hfb hlb hfl
        have HCB : Hid (costB fs ls = (List.range n).all fun i => decide (¬ (0 < fs.getD i 0 ∧ ls.getD i 0 = 0))) := by
          unfold Hid costB
          rw [unhide HB1, unhide HB2, hl, hl2]
          simp
        have HL1 := hide hl
        have HL2 := hide hl2
        clear hl hl2
        go_enter Try.func19, Try.ntmps19
        go_wp2_with fail
        refine (implPer ao n cap fs w (unhide HF) hn0 1000000 true HB1).mono ?_
        rintro e w1 ⟨rfl, rfl⟩
        go_wp2_with fail
        refine (implLensOk bo n capb ls w1 (unhide HS) hn0 true HB2).mono ?_
        rintro e w2 ⟨rfl, rfl⟩
        go_wp2
        go_loopw [5, 25] (fun s i wr => ∃ (k : Nat) (t : Int), k ≤ n ∧ 0 ≤ t ∧ t ≤ 16000000 * (k : Int) ∧ i = .int .i64 k ∧ s = .int .i64 t ∧ Hid (t = sumN k (fun i => fs.getD i 0 * ls.getD i 0)) ∧ Hid (∀ j, j < k → ¬ (0 < fs.getD j 0 ∧ ls.getD j 0 = 0)) ∧ Hid (w2.grownBy wr none)) (fun _ i _ => n - (intOf i).toNat)
        case atStart => exact ⟨0, 0, Nat.zero_le _, Int.le_refl _, by omega, rfl, rfl, rfl, fun j hj => absurd hj (by omega), World.grownBy.refl _ _⟩
        case round =>
          obtain ⟨k, t, hk, ht0, ht1, rfl, rfl, hsum, hok, hg⟩ := hrel
          by_cases hlt : k < n
          · obtain ⟨fb, fo, rfl, hcf⟩ := ((unhide HF).grown (unhide hg)).2 k hlt
            obtain ⟨lb, lo, rfl, hcl⟩ := ((unhide HS).grown (unhide hg)).2 k hlt
            have b1 := unhide HFB k (by rw [unhide HL1]; exact hlt)
            have b2 := unhide HLB k (by rw [unhide HL2]; exact hlt)
            have hs2 := sumN_back k (fun i => fs.getD i 0 * ls.getD i 0)
            have hok2 := unhide hok
            have HBAD : Hid (0 < fs.getD k 0 → ls.getD k 0 = 0 → z = -1) := fun h1 h2 => by
              rw [← unhide HZ]
              refine cost_no ?_
              rw [unhide HCB]
              cases hx : (List.range n).all fun i => decide (¬ (0 < fs.getD i 0 ∧ ls.getD i 0 = 0)) with
              | false => rfl
              | true =>
                have := of_decide_eq_true (List.all_eq_true.1 hx k (List.mem_range.2 hlt))
                exact absurd ⟨h1, h2⟩ this
            have HOK2 : Hid (¬ (0 < fs.getD k 0 ∧ ls.getD k 0 = 0) → ∀ j, j < k + 1 → ¬ (0 < fs.getD j 0 ∧ ls.getD j 0 = 0)) := fun h j hj => by
              by_cases e : j = k
              · subst e; exact h
              · exact hok2 j (by omega)
            have hpm : 0 ≤ fs.getD k 0 * ls.getD k 0 ∧ fs.getD k 0 * ls.getD k 0 ≤ 16000000 := by
              refine ⟨Int.mul_nonneg b1.1 b2.1, ?_⟩
              have h1 := Int.mul_le_mul b1.2 b2.2 b2.1 (by omega)
              omega
            generalize fs.getD k 0 = f at *
            generalize ls.getD k 0 = x at *
            have e1 := i64_in (f * x) (by omega)
            have e2 := i64_in (t + f * x) (by omega)
            have e3 := i64_in ((k : Int) + 1) (by omega)
            have hkI : (k : Int) < (n : Int) := by omega
            have HS2 : Hid (t + f * x = sumN (k + 1) (fun i => fs.getD i 0 * ls.getD i 0)) := by unfold Hid; rw [hs2, unhide hsum]
            obtain ⟨P, hP⟩ : ∃ P, f * x = P := ⟨_, rfl⟩
            rw [hP] at hpm e1 e2 HS2
            clear hsum hs2 hok hok2
            by_cases hf : 0 < f
            · have hd1 : decide ((0 : Int) < f) = true := decide_eq_true hf
              by_cases hx : x = 0
              · subst hx
                have hz := unhide HBAD hf rfl
                subst hz
                clear HBAD HOK2
                go_wp2
                go_ret
                exact ⟨rfl, unhide hg⟩
              · have hx0 : (x == 0) = false := beq_false_of_ne hx
                have HO := hide (unhide HOK2 (fun h => hx h.2))
                clear HBAD HOK2
                go_wp2
                go_roundw
                case rel => exact ⟨k + 1, t + P, by omega, by omega, by omega, by go_num, by first | rfl | go_num, HS2, HO, hg⟩
                case measure => simp [intOf]; omega
            · have hd1 : decide ((0 : Int) < f) = false := decide_eq_false hf
              have HO := hide (unhide HOK2 (fun h => hf h.1))
              clear HBAD HOK2
              go_wp2
              go_roundw
              case rel => exact ⟨k + 1, t + P, by omega, by omega, by omega, by go_num, by first | rfl | go_num, HS2, HO, hg⟩
              case measure => simp [intOf]; omega
          · obtain rfl : k = n := by omega
            have hz : z = t := by
              have hc : costB fs ls = true := by
                rw [unhide HCB, List.all_eq_true]
                intro i hi
                exact decide_eq_true (unhide hok i (List.mem_range.1 hi))
              rw [← unhide HZ, costG, if_pos hc, unhide HL1, unhide hsum]
            subst hz
            go_wp2
            go_ret
            exact ⟨rfl, unhide hg⟩
      · have e : z = -1 := by
          rw [← unhide HZ]
          exact cost_no (by rw [costB, decide_eq_false (by omega), Bool.and_false]; rfl)
        subst e
        have hnn : ((n : Int) != (m : Int)) = true := by simp; omega
        clear hl hl2
        go_enter Try.func19, Try.ntmps19
        go_wp2_with fail
        refine (implPer ao n cap fs w (unhide HF) hn0 1000000 true HB1).mono ?_
        rintro e w1 ⟨rfl, rfl⟩
        go_wp2_with fail
        refine (implLensOk bo m capb ls w1 (unhide HS) hm0 true HB2).mono ?_
        rintro e w2 ⟨rfl, rfl⟩
        go_wp2
        go_ret
        exact ⟨rfl, World.grownBy.refl _ _⟩

end Go.Proofs.Ytcbaiagkdphkeaa
