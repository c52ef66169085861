/-
  Lists of components in the program.
-/
import Derived.Test.YtnjcmlmgjoaeeaaGeoHas
import Derived.Test.YtnjcmlmgjoaeeaaGeoOrd
namespace Go.Proofs.Ytnjcmlmgjoaeeaa
open Go.RowKit

/-- The number ahead of place k, -1 ahead of the first. -/
def lastC (cs : List Int) (k : Nat) : Int := if k = 0 then -1 else cs.getD (k - 1) 0
theorem lastC_succ (cs : List Int) (k : Nat) : lastC cs (k + 1) = cs.getD k 0 := by simp [lastC]

set_option maxRecDepth 20000 in
set_option maxHeartbeats 1600000 in
theorem hasComps (X : Array Value) (hs : X.size = 21) (n : Nat) (F : Hid (∀ (c : Int) (w : World), Calls Try.prog 87 #[.agg X, .int .i64 c] w fun e w' => e = .returned (.bool (decide (0 ≤ c ∧ c ≤ (n : Int) - 1))) ∧ w.grownBy w' none))
    (ao : Option Addr) (m cap : Nat) (cs : List Int) (w : World) (hr : Rd .i64 w ao m cs) (hm : m ≤ 4194304) :
    Calls Try.prog 76 #[.agg X, .slice ao m cap] w fun e w' => e = .returned (.bool (okComps n cs)) ∧ w.grownBy w' none := by
  have hml := hr.1
  obtain ⟨wx, hW0⟩ : ∃ wx, w.alloc (.cells X 71) = wx := ⟨_, rfl⟩
  have G0 : w.grownBy wx none := by rw [← hW0]; exact grown_alloc (World.grownBy.refl _ _) _
  have B0 : Hid (wx.heap[w.heap.size]? = some (.cells X 71 (0, 0))) := by rw [← hW0]; exact heap_alloc_new w _
  have hgs : w.heap.size < wx.heap.size := by rw [← hW0]; simp
  have HR := hide (hr.grown G0)
  have HG0 := hide G0
  have HW := hide hW0
  clear hr G0 hW0
  go_enter Try.func76, Try.ntmps76
  go_wp2
  rw [unhide HW]
  clear HW
  go_loopw [5, 10] (fun l i wr => ∃ k : Nat, k ≤ m ∧ i = .int .i64 k ∧ l = .int .i64 (lastC cs k) ∧ compsTo n cs k = true ∧ wx.grownBy wr none) (fun _ i _ => m - (intOf i).toNat)
  case atStart => exact ⟨0, Nat.zero_le _, rfl, rfl, rfl, World.grownBy.refl _ _⟩
  case round =>
    obtain ⟨k, hk, rfl, rfl, hok, hgk⟩ := hrel
    by_cases hlt : k < m
    · obtain ⟨b, off, rfl, hc⟩ := ((unhide HR).grown hgk).2 k hlt
      have hB := (hgk.block w.heap.size hgs (by simp)).trans (unhide B0)
      have HS : Hid (compsTo n cs (k + 1) = (compsTo n cs k && (decide (0 ≤ cs.getD k 0 ∧ cs.getD k 0 ≤ (n : Int) - 1) && decide (k = 0 ∨ cs.getD (k - 1) 0 < cs.getD k 0)))) := rfl
      have HOK := hide hok
      have STOP : Hid (compsTo n cs (k + 1) = false → okComps n cs = false) := fun h => by
        rw [okComps, compsTo_false h cs.length (by omega)]; rfl
      have HL0 : Hid (cs.getD k 0 ≤ lastC cs k → compsTo n cs (k + 1) = false) := fun h => by
        rw [unhide HS]
        unfold lastC at h
        split at h
        · have e : decide (0 ≤ cs.getD k 0 ∧ cs.getD k 0 ≤ (n : Int) - 1) = false := decide_eq_false (by omega)
          rw [e]; simp
        · have e : decide (k = 0 ∨ cs.getD (k - 1) 0 < cs.getD k 0) = false := decide_eq_false (by omega)
          rw [e]; simp
      have HL1 : Hid (lastC cs k < cs.getD k 0 → compsTo n cs (k + 1) = decide (0 ≤ cs.getD k 0 ∧ cs.getD k 0 ≤ (n : Int) - 1)) := fun h => by
        rw [unhide HS, unhide HOK]
        unfold lastC at h
        split at h
        · rename_i e0
          rw [show decide (k = 0 ∨ cs.getD (k - 1) 0 < cs.getD k 0) = true from decide_eq_true (.inl e0)]; simp
        · rw [show decide (k = 0 ∨ cs.getD (k - 1) 0 < cs.getD k 0) = true from decide_eq_true (.inr h)]; simp
      clear hok HS
      generalize lastC cs k = l0 at *
      generalize hcE : cs.getD k 0 = c at *
      have HCE := hide hcE
      clear hcE
      by_cases hle : c ≤ l0
      · go_wp2
        go_ret
        exact ⟨ret_bool (by rw [unhide STOP (unhide HL0 hle)]), grown_trans (unhide HG0) hgk⟩
      · obtain ⟨t, HT⟩ : ∃ t, Hid (decide (0 ≤ c ∧ c ≤ (n : Int) - 1) = t) := ⟨_, rfl⟩
        have HF := hide ((unhide F) c wr)
        rw [unhide HT] at HF
        have HCT : Hid (compsTo n cs (k + 1) = t) := by unfold Hid; rw [unhide HL1 (by omega), unhide HT]
        clear HL0 HL1 HT
        go_wp2_with (refine wpList_load_row rfl 71 _ rfl w.heap.size rfl X 71 hB _ Try.underlying71 rfl (by rw [hs]; kernel_rfl) ?_)
        refine (unhide HF).mono ?_
        rintro e w2 ⟨rfl, g2⟩
        have G2 := grown_trans hgk g2
        clear HF
        cases t
        · go_wp2
          go_ret
          exact ⟨ret_bool (by rw [unhide STOP (unhide HCT)]), grown_trans (unhide HG0) G2⟩
        · go_wp2
          go_roundw
          case rel => exact ⟨k + 1, by omega, by go_num, by rw [lastC_succ, unhide HCE], unhide HCT, G2⟩
          case measure => simp [intOf]; omega
    · have hkn : k = m := by omega
      subst hkn
      have HE : Hid (okComps n cs = decide (0 < k)) := by
        unfold Hid okComps
        rw [hml, hok, Bool.true_and]
      clear hok
      go_wp2
      go_ret
      exact ⟨ret_bool (by rw [unhide HE]), grown_trans (unhide HG0) hgk⟩

end Go.Proofs.Ytnjcmlmgjoaeeaa
