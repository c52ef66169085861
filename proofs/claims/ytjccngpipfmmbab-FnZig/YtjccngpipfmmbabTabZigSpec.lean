/-
  The order of waves in the specification, and as a list in the program.
-/
import Derived.Test.YtjccngpipfmmbabTabZig
namespace Go.Proofs.Ytjccngpipfmmbab
open Go.RowKit

/-- How many of a slanting line come ahead of step k. -/
def ahead (s k : Nat) : Nat := lineAt s + (min k 8 - (s - 7))
theorem ahead_zero (s : Nat) : ahead s 0 = lineAt s := by simp [ahead]
theorem ahead_end (s : Nat) : ahead s (s + 1) = lineAt (s + 1) := by simp only [ahead, lineAt]; omega
theorem ahead_le : ∀ s, s < 15 → ∀ k, k < s + 1 → k < 8 → s - k < 8 → ahead s k < 64 := by decide
theorem ahead_in (s k : Nat) (h1 : k < 8) (h2 : s - k < 8) (hk : k ≤ s) : ahead s (k + 1) = ahead s k + 1 := by simp only [ahead]; omega
theorem ahead_out (s k : Nat) (hk : k ≤ s) (h : ¬ (k < 8 ∧ s - k < 8)) : ahead s (k + 1) = ahead s k := by simp only [ahead]; omega
theorem ahead_up : ∀ s, s < 15 → ∀ k, k < s + 1 → k < 8 → s - k < 8 → s % 2 = 0 → zzN.getD (ahead s k) 0 = 8 * (s - k) + s - (s - k) := by decide
theorem ahead_down : ∀ s, s < 15 → ∀ k, k < s + 1 → k < 8 → s - k < 8 → s % 2 = 1 → zzN.getD (ahead s k) 0 = 8 * k + s - k := by decide
theorem zz_take (k : Nat) (h : k < 64) (z : Int) (hz : z = zzF k) : zzL.take k ++ [z] = zzL.take (k + 1) := by
  subst hz
  rw [List.take_add_one]
  have : zzL[k]? = some (zzF k) := by
    rw [List.getElem?_eq_getElem (by rw [zz_len]; exact h)]
    simp [zzF, List.getD_eq_getElem?_getD, List.getElem?_eq_getElem (show k < zzL.length by rw [zz_len]; exact h)]
  rw [this]
  rfl

set_option maxRecDepth 20000 in
set_option maxHeartbeats 1600000 in
theorem specZigZag (w : World) :
    Calls Try.prog 10 #[] w fun e w' => ∃ so sc, e = .returned (.slice so zzL.length sc) ∧ w'.ownsRow w.heap.size 3 1 (.slice so zzL.length sc) zzL.length (zzL.map (Value.int .i64)) ∧ w.grownBy w' none := by
  have hown0 : (w.alloc (.cells #[] 3)).ownsRow w.heap.size 3 1 (.slice (some ⟨w.heap.size, 0, none⟩) 0 0) 0 [] := World.ownsRow_lit w #[] 0 (Nat.le_refl _) (by unfold maxLen; omega) rfl
  have HO := hide hown0
  clear hown0
  go_enter Try.func10, Try.ntmps10
  go_wp2
  go_loopw [1, 2] (fun o i wr => ∃ s : Nat, s ≤ 15 ∧ i = .int .i64 s ∧ Hid (wr.ownsRow w.heap.size 3 1 o (lineAt s) ((zzL.take (lineAt s)).map (Value.int .i64))) ∧ Hid (w.grownBy wr none)) (fun _ i _ => 15 - (intOf i).toNat)
  case atStart => exact ⟨0, Nat.zero_le _, rfl, unhide HO, World.grownBy_alloc _ _ _⟩
  case round =>
    obtain ⟨s, hs, rfl, hM, hgk⟩ := hrel
    obtain ⟨so, sc, rfl⟩ := own_form (unhide hM)
    by_cases hlt : s < 15
    · have HM := hide (unhide hM)
      clear hM
      have hd : decide ((s : Int) < 15) = true := by simp; omega
      go_wp2
      go_loopw [1, 3] (fun o i wr => ∃ k : Nat, k ≤ s + 1 ∧ i = .int .i64 k ∧ Hid (wr.ownsRow w.heap.size 3 1 o (ahead s k) ((zzL.take (ahead s k)).map (Value.int .i64))) ∧ Hid (w.grownBy wr none)) (fun _ i _ => 64 - (intOf i).toNat)
      case atStart => exact ⟨0, Nat.zero_le _, rfl, by unfold Hid; rw [ahead_zero]; exact unhide HM, hgk⟩
      case round =>
        obtain ⟨k, hk, rfl, hMk, hgk2⟩ := hrel
        obtain ⟨so2, sc2, rfl⟩ := own_form (unhide hMk)
        by_cases hltk : k < s + 1
        · have HMK := hide (unhide hMk)
          clear hMk
          by_cases hin : k < 8 ∧ s - k < 8
          · obtain ⟨h1, h2⟩ := hin
            have hin : ahead s (k + 1) = ahead s k + 1 := ahead_in s k h1 h2 (by omega)
            have HIN := hide hin
            clear hin
            have HLT := hide (ahead_le s hlt k hltk h1 h2)
            by_cases hev : s % 2 = 0
            · have HZ := hide ((zzF_eq (ahead s k)).trans (congrArg Int.ofNat (ahead_up s hlt k hltk h1 h2 hev)))
              go_wp2_with (at_builtin; refine append_int rfl _ _ rfl w _ (ahead s k) (zzL.take (ahead s k)) rfl (unhide HMK) _ rfl (by have := unhide HLT; omega) (unhide hgk2) ?_; intro v' w' ho hg)
              go_roundw
              case rel =>
                refine ⟨k + 1, by omega, by go_num, ?_, hg⟩
                rw [zz_take _ (unhide HLT) _ (by rw [unhide HZ]; show _ = ((_ : Nat) : Int); omega)] at ho
                unfold Hid; rw [unhide HIN]; exact ho
              case measure => simp [intOf]; omega
            · have HZ := hide ((zzF_eq (ahead s k)).trans (congrArg Int.ofNat (ahead_down s hlt k hltk h1 h2 (by omega))))
              go_wp2_with (at_builtin; refine append_int rfl _ _ rfl w _ (ahead s k) (zzL.take (ahead s k)) rfl (unhide HMK) _ rfl (by have := unhide HLT; omega) (unhide hgk2) ?_; intro v' w' ho hg)
              go_roundw
              case rel =>
                refine ⟨k + 1, by omega, by go_num, ?_, hg⟩
                rw [zz_take _ (unhide HLT) _ (by rw [unhide HZ]; show _ = ((_ : Nat) : Int); omega)] at ho
                unfold Hid; rw [unhide HIN]; exact ho
              case measure => simp [intOf]; omega
          · have HOUT := hide (ahead_out s k (by omega) hin)
            by_cases hev : s % 2 = 0
            · by_cases h1 : s - k < 8
              · have h2 : ¬ k < 8 := fun e => hin ⟨e, h1⟩
                go_wp2
                go_roundw
                case rel => exact ⟨k + 1, by omega, by go_num, by unfold Hid; rw [unhide HOUT]; exact unhide HMK, hgk2⟩
                case measure => simp [intOf]; omega
              · go_wp2
                go_roundw
                case rel => exact ⟨k + 1, by omega, by go_num, by unfold Hid; rw [unhide HOUT]; exact unhide HMK, hgk2⟩
                case measure => simp [intOf]; omega
            · by_cases h1 : k < 8
              · have h2 : ¬ s - k < 8 := fun e => hin ⟨h1, e⟩
                go_wp2
                go_roundw
                case rel => exact ⟨k + 1, by omega, by go_num, by unfold Hid; rw [unhide HOUT]; exact unhide HMK, hgk2⟩
                case measure => simp [intOf]; omega
              · go_wp2
                go_roundw
                case rel => exact ⟨k + 1, by omega, by go_num, by unfold Hid; rw [unhide HOUT]; exact unhide HMK, hgk2⟩
                case measure => simp [intOf]; omega
        · obtain rfl : k = s + 1 := by omega
          have HE := hide (ahead_end s)
          go_wp2
          go_roundw
          case rel => exact ⟨s + 1, by omega, by go_num, by unfold Hid; rw [← unhide HE]; exact unhide hMk, hgk2⟩
          case measure => simp [intOf]; omega
    · obtain rfl : s = 15 := by omega
      have hM := unhide hM
      rw [line_end, List.take_of_length_le (by rw [zz_len]; omega)] at hM
      have HM := hide hM
      clear hM
      go_wp2
      go_ret
      exact ⟨_, _, rfl, unhide HM, unhide hgk⟩

set_option maxRecDepth 20000 in
set_option maxHeartbeats 400000 in
theorem implZigZag (w : World) :
    Calls Try.prog 7 #[] w fun e w' => ∃ so sc, e = .returned (.slice so zzL.length sc) ∧ w'.ownsRow w.heap.size 3 1 (.slice so zzL.length sc) zzL.length (zzL.map (Value.int .i64)) ∧ w.grownBy w' none := by
  go_enter Try.func7, Try.ntmps7
  go_wp2_with fail
  refine (zigZag w).mono ?_
  rintro e w1 ⟨rfl, g1⟩
  go_wp2_with fail
  refine (list zzL zz_len w1).mono ?_
  rintro e w2 ⟨v, rfl, ho, g2⟩
  go_wp2
  go_ret
  obtain ⟨so, sc, rfl⟩ := own_form ho
  exact ⟨_, _, rfl, own_base ho g1.size, grown_trans g1 g2⟩

end Go.Proofs.Ytjccngpipfmmbab
