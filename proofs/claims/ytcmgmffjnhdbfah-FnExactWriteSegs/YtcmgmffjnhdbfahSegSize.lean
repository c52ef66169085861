/-
  The walks of the law's own measure of a row of segments.
-/
import Derived.Test.YtcmgmffjnhdbfahSegRows
namespace Go.Proofs.Ytcmgmffjnhdbfah
open Go.RowKit

theorem szByteS (ao : Option Addr) (n cap : Nat) (left : Int) (r : Int) (w : World) (h0 : 0 ≤ left) (h1 : left ≤ 1048576) (hm : n ≤ 9223372036854775807) (hr : Hid ((if (n : Int) ≤ left then left - n else -1) = r)) :
    Calls Try.prog 43 #[.slice ao n cap, .int .i64 left] w fun e w' => e = .returned (.int .i64 r) ∧ w = w' := by
  by_cases h : (n : Int) ≤ left
  · have e : left - n = r := by have := unhide hr; rwa [if_pos h] at this
    subst e
    clear hr
    have hn : ¬ (left - (n : Int) < 0) := by omega
    go_enter Try.func43, Try.ntmps43
    go_wp2
    go_ret
    exact ⟨rfl, rfl⟩
  · have e : -1 = r := by have := unhide hr; rwa [if_neg h] at this
    subst e
    clear hr
    have hn : left - (n : Int) < 0 := by omega
    go_enter Try.func43, Try.ntmps43
    go_wp2
    go_ret
    exact ⟨rfl, rfl⟩

theorem szSeg (m : Int) (ao : Option Addr) (n cap : Nat) (left : Int) (r : Int) (w : World) (h0 : 0 ≤ left) (h1 : left ≤ 1048576) (hm : n ≤ 9223372036854775807) (hr : Hid ((if (n : Int) ≤ left then left - n else -1) = r)) :
    Calls Try.prog 30 #[.agg #[.int .i64 m, .slice ao n cap], .int .i64 left] w fun e w' => e = .returned (.int .i64 r) ∧ w.grownBy w' none := by
  by_cases h : (n : Int) ≤ left
  · have e : left - n = r := by have := unhide hr; rwa [if_pos h] at this
    subst e
    have hn : ¬ (left - (n : Int) < 0) := by omega
    go_enter Try.func30, Try.ntmps30
    go_wp2_with fail
    refine (szByteS ao n cap left _ _ h0 h1 hm hr).mono ?_
    rintro e w1 ⟨rfl, rfl⟩
    go_wp2
    go_ret
    exact ⟨rfl, grown_alloc (World.grownBy.refl _ _) _⟩
  · have e : -1 = r := by have := unhide hr; rwa [if_neg h] at this
    subst e
    go_enter Try.func30, Try.ntmps30
    go_wp2_with fail
    refine (szByteS ao n cap left _ _ h0 h1 hm hr).mono ?_
    rintro e w1 ⟨rfl, rfl⟩
    go_wp2
    go_ret
    exact ⟨rfl, grown_alloc (World.grownBy.refl _ _) _⟩

/-- The segments and all their bytes together, up to a place. -/
def totS (ss : List (Int × List Int)) (n : Nat) : Nat → Nat
  | 0 => n
  | i + 1 => totS ss n i + (ss.getD i (0, [])).2.length
theorem totS_mono (ss : List (Int × List Int)) (n i : Nat) : ∀ j, i ≤ j → totS ss n i ≤ totS ss n j := by
  intro j h
  induction j with
  | zero => obtain rfl : i = 0 := by omega
            exact Nat.le_refl _
  | succ j ih =>
    by_cases e : i = j + 1
    · subst e; exact Nat.le_refl _
    · have := ih (by omega)
      rw [totS]; omega

theorem tot_len (ss : List (Int × List Int)) (n B : Nat) (h : totS ss n n ≤ B) : n ≤ B ∧ ∀ i, i < n → (ss.getD i (0, [])).2.length ≤ B := by
  have h0 := totS_mono ss n 0 n (Nat.zero_le _)
  refine ⟨by have : totS ss n 0 = n := rfl; omega, fun i hi => ?_⟩
  have h1 := totS_mono ss n (i + 1) n hi
  rw [totS] at h1
  omega

set_option maxHeartbeats 800000 in
theorem szSegS (ao : Option Addr) (n cap : Nat) (ss : List (Int × List Int)) (r : Int) (w : World) (hres : Hid ((if totS ss n n ≤ 1048576 then 1048576 - (totS ss n n : Int) else -1) = r)) (hr : RdS w ao n ss) (hm : n ≤ 9223372036854775807) (hd : ∀ i, i < n → (ss.getD i (0, [])).2.length ≤ 9223372036854775807) :
    Calls Try.prog 16 #[.slice ao n cap, .int .i64 1048576] w fun e w' => e = .returned (.int .i64 r) ∧ w.grownBy w' none := by
  obtain ⟨hl, hc⟩ := hr
  have HD := hide hd
  clear hd
  by_cases hn : n ≤ 1048576
  · have hneg : ¬ ((1048576 : Int) - n < 0) := by omega
    go_enter Try.func16, Try.ntmps16
    go_wp2
    go_loopw [1, 5] (fun c i wr => ∃ k : Nat, k ≤ n ∧ i = .int .i64 k ∧ c = .int .i64 (1048576 - (totS ss n k : Int)) ∧ totS ss n k ≤ 1048576 ∧ w.grownBy wr none) (fun _ i _ => n - (intOf i).toNat)
    case atStart => exact ⟨0, Nat.zero_le _, rfl, rfl, hn, World.grownBy.refl _ _⟩
    case round =>
      obtain ⟨k, hk, rfl, rfl, ht, hgk⟩ := hrel
      by_cases hlt : k < n
      · obtain ⟨b, off, dd, dc, rfl, hc1, hc2, _⟩ := hc k hlt
        have hca := hgk.cell hc1 (by simp)
        have hcb := hgk.cell hc2 (by simp)
        have hdk := unhide HD k hlt
        have HT : Hid (totS ss n (k + 1) = totS ss n k + (ss.getD k (0, [])).2.length) := rfl
        have HM := hide (totS_mono ss n (k + 1) n hlt)
        clear hc hc1 hc2
        obtain ⟨⟨mk, bk⟩, hf⟩ : ∃ f, ss.getD k (0, []) = f := ⟨_, rfl⟩
        rw [hf] at hca hcb hdk HT
        dsimp only at hca hcb hdk HT
        clear hf
        generalize totS ss n k = t at *
        generalize bk.length = lk at *
        by_cases hfit : t + lk ≤ 1048576
        · have hif : Hid ((if (lk : Int) ≤ 1048576 - (t : Int) then 1048576 - (t : Int) - lk else -1) = 1048576 - (t : Int) - lk) := if_pos (by omega)
          have hnn : ¬ (1048576 - (t : Int) - lk < 0) := by omega
          go_wp2_with fail
          refine (szSeg mk dd lk dc (1048576 - (t : Int)) _ wr (by omega) (by omega) hdk hif).mono ?_
          rintro e w2 ⟨rfl, g2⟩
          have hg2 := grown_trans hgk g2
          clear hgk g2 hca hcb
          go_wp2
          go_roundw
          case rel => exact ⟨k + 1, by omega, by go_num, by rw [unhide HT]; congr 1; omega, by rw [unhide HT]; exact hfit, hg2⟩
          case measure => simp [intOf]; omega
        · have hif : Hid ((if (lk : Int) ≤ 1048576 - (t : Int) then 1048576 - (t : Int) - lk else -1) = -1) := if_neg (by omega)
          go_wp2_with fail
          refine (szSeg mk dd lk dc (1048576 - (t : Int)) _ wr (by omega) (by omega) hdk hif).mono ?_
          rintro e w2 ⟨rfl, g2⟩
          go_wp2
          go_ret
          refine ⟨?_, grown_trans hgk g2⟩
          have hbig : ¬ totS ss n n ≤ 1048576 := by have h1 := unhide HM; rw [unhide HT] at h1; omega
          have := unhide hres
          rw [if_neg hbig] at this
          rw [← this]; rfl
      · have hkn : k = n := by omega
        subst hkn
        go_wp2
        go_ret
        refine ⟨?_, hgk⟩
        have := unhide hres
        rw [if_pos ht] at this
        rw [← this]; rfl
  · have hneg : (1048576 : Int) - n < 0 := by omega
    have hbig : ¬ totS ss n n ≤ 1048576 := by have := totS_mono ss n 0 n (by omega); have e : totS ss n 0 = n := rfl; omega
    have HB := hide hbig
    clear hbig
    go_enter Try.func16, Try.ntmps16
    go_wp2
    go_ret
    refine ⟨?_, World.grownBy.refl _ _⟩
    have := unhide hres
    rw [if_neg (unhide HB)] at this
    rw [← this]; rfl

end Go.Proofs.Ytcmgmffjnhdbfah
