/-
  The walk of the laws' own comparison of two rows of segments.
-/
import Derived.Test.YticecjodbhhcfaaDoorSame
import Derived.Test.YticecjodbhhcfaaDoorSegRows
namespace Go.Proofs.YticecjodbhhcfaaDoor
open Go.RowKit

set_option maxHeartbeats 1600000 in
theorem sameSegs (ao bo : Option Addr) (n cap cap' : Nat) (ss : List (Int × List Int)) (w : World) (hx : RdS w ao n ss) (hy : RdS w bo n ss) (hn : n ≤ 4194304) (hd : ∀ i, i < n → (ss.getD i (0, [])).2.length ≤ 4194304) :
    Calls Tryd.prog 12 #[.slice ao n cap, .slice bo n cap'] w fun e w' => e = .returned (.bool true) ∧ w.grownBy w' none := by
  obtain ⟨hl, hc⟩ := hx
  obtain ⟨_, hd2⟩ := hy
  have HD := hide hd
  clear hd
  have hne : ((n : Int) != n) = false := by simp
  go_enter Tryd.func12, Tryd.ntmps12
  go_wp2
  go_loopw [5] (fun i wr => ∃ k : Nat, k ≤ n ∧ i = .int .i64 k ∧ w.grownBy wr none) (fun i _ => n - (intOf i).toNat)
  case atStart => exact ⟨0, Nat.zero_le _, rfl, World.grownBy.refl _ _⟩
  case round =>
    obtain ⟨k, hk, rfl, hgk⟩ := hrel
    by_cases hlt : k < n
    · obtain ⟨b, off, d1, e1, rfl, hc1, hc2, hr1, _⟩ := hc k hlt
      obtain ⟨b', off', d2, e2, rfl, hd1', hd2', hr2, _⟩ := hd2 k hlt
      have hdk := unhide HD k hlt
      have hca := hgk.cell hc1 (by simp)
      have hcb := hgk.cell hc2 (by simp)
      have hda := hgk.cell hd1' (by simp)
      have hdb := hgk.cell hd2' (by simp)
      have HR1 := hide (hr1.grown hgk)
      have HR2 := hide (hr2.grown hgk)
      clear hc hd2 hr1 hr2 hc1 hc2 hd1' hd2'
      obtain ⟨⟨mk, bk⟩, hf⟩ : ∃ f, ss.getD k (0, []) = f := ⟨_, rfl⟩
      rw [hf] at hca hcb hda hdb HR1 HR2 hdk
      dsimp only at hca hcb hda hdb HR1 HR2 hdk
      clear hf
      have hik : (k : Int) < (n : Int) := by omega
      have hmm : (mk != mk) = false := by simp
      go_wp2
      go_quiet ((go_at_call 8; exact Calls.quiet_of (sameBytesQ d1 d2 _ _ _ bk _ ((unhide HR1).drewN _) ((unhide HR2).drewN _) hdk)))
      go_wp2
      go_roundw
      case rel => exact ⟨k + 1, by omega, by go_num, grown_drewN hgk _⟩
      case measure => simp [intOf]; omega
    · go_wp2
      go_ret
      exact ⟨rfl, hgk⟩

end Go.Proofs.YticecjodbhhcfaaDoor
