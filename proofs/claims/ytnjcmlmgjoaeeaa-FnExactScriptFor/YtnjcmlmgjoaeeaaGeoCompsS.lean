/-
  Components that are named, in the specification.
-/
import Derived.Test.YtnjcmlmgjoaeeaaGeoOrd
import Derived.Test.YtnjcmlmgjoaeeaaGeoSpec
namespace Go.Proofs.Ytnjcmlmgjoaeeaa
open Go.RowKit

set_option maxRecDepth 20000 in
set_option maxHeartbeats 1600000 in
theorem specComps (p wd ht rs : Int) (fo : Option Addr) (n fcap : Nat) (hn : n ≤ 4194304) (ao : Option Addr) (m cap : Nat) (cs : List Int) (w : World) (hr : Rd .i64 w ao m cs) (hm : m ≤ 4194304) :
    Calls Try.prog 54 #[.agg #[.int .i64 p, .int .i64 wd, .int .i64 ht, .int .i64 rs, .slice fo n fcap], .slice ao m cap] w fun e w' => e = .returned (.bool (okComps n cs)) ∧ w.grownBy w' none := by
  have hml := hr.1
  obtain ⟨wx, hW0⟩ : ∃ wx, w.alloc (.cells #[.int .i64 p, .int .i64 wd, .int .i64 ht, .int .i64 rs, .slice fo n fcap] 26) = wx := ⟨_, rfl⟩
  have G0 : w.grownBy wx none := by rw [← hW0]; exact grown_alloc (World.grownBy.refl _ _) _
  have B0 : Hid (wx.heap[w.heap.size]? = some (.cells #[.int .i64 p, .int .i64 wd, .int .i64 ht, .int .i64 rs, .slice fo n fcap] 26 (0, 0))) := by rw [← hW0]; exact heap_alloc_new w _
  have hgs : w.heap.size < wx.heap.size := by rw [← hW0]; simp
  have HR := hide (hr.grown G0)
  have HG0 := hide G0
  have HW := hide hW0
  have hwn := i64_in ((n : Int) - 1) (by omega)
  clear hr G0 hW0
  go_enter Try.func54, Try.ntmps54
  go_wp2
  rw [unhide HW]
  clear HW
  go_loopw [5] (fun i wr => ∃ k : Nat, k ≤ m ∧ i = .int .i64 k ∧ compsTo n cs k = true ∧ wx.grownBy wr none) (fun i _ => m - (intOf i).toNat)
  case atStart => exact ⟨0, Nat.zero_le _, rfl, rfl, World.grownBy.refl _ _⟩
  case round =>
    obtain ⟨k, hk, rfl, hok, hgk⟩ := hrel
    by_cases hlt : k < m
    · obtain ⟨b, off, hao, hc⟩ := ((unhide HR).grown hgk).2 k hlt
      obtain ⟨_, _, _, _, kf⟩ := frameCells' ((hgk.block w.heap.size hgs (by simp)).trans (unhide B0))
      have HS : Hid (compsTo n cs (k + 1) = (compsTo n cs k && (decide (0 ≤ cs.getD k 0 ∧ cs.getD k 0 ≤ (n : Int) - 1) && decide (k = 0 ∨ cs.getD (k - 1) 0 < cs.getD k 0)))) := rfl
      have HOK := hide hok
      have STOP : Hid (compsTo n cs (k + 1) = false → okComps n cs = false) := fun h => by
        rw [okComps, compsTo_false h cs.length (by omega)]; rfl
      obtain ⟨t, HT⟩ : ∃ t, Hid (decide (0 ≤ cs.getD k 0 ∧ cs.getD k 0 ≤ (n : Int) - 1) = t) := ⟨_, rfl⟩
      have hk1 : (k : Int) < (m : Int) := by omega
      rw [unhide HT, unhide HOK, Bool.true_and] at HS
      clear hok HOK
      by_cases h0 : k = 0
      · subst h0
        have HS2 : Hid (compsTo n cs (0 + 1) = t) := by unfold Hid; rw [unhide HS]; simp
        clear HS
        rw [Nat.add_zero] at hc
        generalize cs.getD 0 0 = c at *
        subst hao
        cases t
        · go_wp2
          go_quiet ((go_at_call_of 46 (Value.int .i64 c); exact Calls.quiet_of_same (between c 0 _ false HT _)))
          all_goals
            go_wp2
            go_ret
            exact ⟨ret_bool (by rw [unhide STOP (unhide HS2)]), grown_drewN (grown_trans (unhide HG0) hgk) _⟩
        · go_wp2
          go_quiet ((go_at_call_of 46 (Value.int .i64 c); exact Calls.quiet_of_same (between c 0 _ true HT _)))
          all_goals
            go_wp2
            go_roundw
            case rel => exact ⟨1, by omega, by go_num, unhide HS2, grown_drewN hgk _⟩
            case measure => simp [intOf]; omega
      · obtain ⟨b', off', hao', hc'⟩ := ((unhide HR).grown hgk).2 (k - 1) (by omega)
        obtain ⟨rfl, rfl⟩ : b' = b ∧ off' = off := by rw [hao] at hao'; simpa [eq_comm] using hao'
        subst hao
        clear hao'
        have hkp : (0 : Int) < (k : Int) := by omega
        obtain ⟨j, rfl⟩ : ∃ j, k = j + 1 := ⟨k - 1, by omega⟩
        simp only [Nat.add_sub_cancel] at hc' HS
        have hw1 : IntKind.i64.wrap (((j + 1 : Nat) : Int) - 1) = (j : Int) := by rw [i64_in _ (by omega)]; omega
        have hj0 : (0 : Int) ≤ (j : Int) := by omega
        have hj1 : (j : Int) < (m : Int) := by omega
        generalize cs.getD (j + 1) 0 = c at *
        generalize cs.getD j 0 = d at *
        cases t
        · have HS2 : Hid (compsTo n cs (j + 1 + 1) = false) := by unfold Hid; rw [unhide HS]; simp
          go_wp2
          go_quiet ((go_at_call_of 46 (Value.int .i64 c); exact Calls.quiet_of_same (between c 0 _ false HT _)))
          all_goals
            go_wp2
            go_ret
            exact ⟨ret_bool (by rw [unhide STOP (unhide HS2)]), grown_drewN (grown_trans (unhide HG0) hgk) _⟩
        · by_cases hdc : d < c
          · have HS2 : Hid (compsTo n cs (j + 1 + 1) = true) := by unfold Hid; rw [unhide HS]; simp [hdc]
            have hdc' : ¬ c ≤ d := by omega
            go_wp2
            go_quiet ((go_at_call_of 46 (Value.int .i64 c); exact Calls.quiet_of_same (between c 0 _ true HT _)))
            all_goals
              go_wp2
              go_roundw
              case rel => exact ⟨j + 1 + 1, by omega, by go_num, unhide HS2, grown_drewN hgk _⟩
              case measure => simp [intOf]; omega
          · have HS2 : Hid (compsTo n cs (j + 1 + 1) = false) := by unfold Hid; rw [unhide HS]; simp [hdc]
            have hdc' : c ≤ d := by omega
            go_wp2
            go_quiet ((go_at_call_of 46 (Value.int .i64 c); exact Calls.quiet_of_same (between c 0 _ true HT _)))
            all_goals
              go_wp2
              go_ret
              exact ⟨ret_bool (by rw [unhide STOP (unhide HS2)]), grown_drewN (grown_trans (unhide HG0) hgk) _⟩
    · have hkn : k = m := by omega
      subst hkn
      have HE : Hid (okComps n cs = decide (0 < k)) := by
        unfold Hid okComps
        rw [hml, hok, Bool.true_and]
      clear hok
      go_wp2
      go_ret
      exact ⟨ret_bool (by rw [unhide HE]), grown_trans (unhide HG0) hgk⟩

end Go.Proofs.Ytnjcmlmgjoaeeaa
