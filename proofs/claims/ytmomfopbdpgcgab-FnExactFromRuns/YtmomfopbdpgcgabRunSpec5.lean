/-
  The list of items, in the specification: whatever is asked.
-/
import Derived.Test.YtmomfopbdpgcgabRunSpec4
namespace Go.Proofs.Ytmomfopbdpgcgab
open Go.RowKit

set_option maxRecDepth 20000 in
set_option maxHeartbeats 1600000 in
theorem specFromRuns (ao : Option Addr) (n cap : Nat) (I : List It) (w : World) (hr : RdT w ao n I) (m : Int) (ys : List Int) (ok : Bool) (HF : Hid (fromG I m = (ys, ok))) :
    Calls Try.prog 5 #[.slice ao n cap, .int .i64 m] w fun e w' => ∃ v, e = .returned (.tuple #[v, .bool ok]) ∧ w'.ownsRow w.heap.size 3 1 v ys.length (ys.map (Value.int .i64)) ∧ w.grownBy w' none := by
  have hl := hr.1
  by_cases hm : 0 ≤ m ∧ m ≤ 64
  · by_cases hn : n ≤ 64
    · obtain ⟨M, rfl⟩ := Int.eq_ofNat_of_zero_le hm.1
      exact specFromRuns_in ao n cap I w hr M (by omega) hn ys ok HF
    · have hf : fromG I m = ([], false) := by
        unfold fromG
        rw [if_neg (fun h => hn (by have := h.2.1; omega))]
      have hf2 := (unhide HF).symm.trans hf
      simp only [Prod.mk.injEq] at hf2
      obtain ⟨rfl, rfl⟩ := hf2
      have HO0 : Hid ((w.alloc (.cells #[] 3)).ownsRow w.heap.size 3 1 (.slice (some ⟨w.heap.size, 0, none⟩) 0 0) 0 []) := World.ownsRow_lit w #[] 0 (Nat.le_refl _) (by unfold maxLen; omega) rfl
      have HG0 : Hid (w.grownBy (w.alloc (.cells #[] 3)) none) := World.grownBy_alloc _ _ _
      have HT : Hid (decide (0 ≤ m ∧ m ≤ 64) = true) := decide_eq_true hm
      have hd : decide ((64 : Int) < (n : Int)) = true := decide_eq_true (by omega)
      clear hr hf HF
      go_enter Try.func5, Try.ntmps5
      go_wp2_with fail
      refine (between m 0 64 true HT _).mono ?_
      rintro e w1 ⟨rfl, rfl⟩
      go_wp2
      refine bodyPost_ret (v := .tuple #[.slice (some ⟨w.heap.size, 0, none⟩) 0 0, .bool false]) (by simp [results, Try.results5, go_sem, *]) rfl ?_
      exact ⟨_, rfl, unhide HO0, unhide HG0⟩
  · have hf : fromG I m = ([], false) := by
      unfold fromG
      rw [if_neg (fun h => hm h.1)]
    have hf2 := (unhide HF).symm.trans hf
    simp only [Prod.mk.injEq] at hf2
    obtain ⟨rfl, rfl⟩ := hf2
    have HO0 : Hid ((w.alloc (.cells #[] 3)).ownsRow w.heap.size 3 1 (.slice (some ⟨w.heap.size, 0, none⟩) 0 0) 0 []) := World.ownsRow_lit w #[] 0 (Nat.le_refl _) (by unfold maxLen; omega) rfl
    have HG0 : Hid (w.grownBy (w.alloc (.cells #[] 3)) none) := World.grownBy_alloc _ _ _
    have HT : Hid (decide (0 ≤ m ∧ m ≤ 64) = false) := decide_eq_false hm
    clear hr hf HF hm hl
    go_enter Try.func5, Try.ntmps5
    go_wp2_with fail
    refine (between m 0 64 false HT _).mono ?_
    rintro e w1 ⟨rfl, rfl⟩
    go_wp2
    refine bodyPost_ret (v := .tuple #[.slice (some ⟨w.heap.size, 0, none⟩) 0 0, .bool false]) (by simp [results, Try.results5, go_sem, *]) rfl ?_
    exact ⟨_, rfl, unhide HO0, unhide HG0⟩

end Go.Proofs.Ytmomfopbdpgcgab
