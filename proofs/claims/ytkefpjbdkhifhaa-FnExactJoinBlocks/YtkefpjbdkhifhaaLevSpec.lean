/-
  Sixty-four numbers between two bounds, in the specification.
-/
import Derived.Test.YtkefpjbdkhifhaaBetween
namespace Go.Proofs.Ytkefpjbdkhifhaa
open Go.RowKit

def levB (lo hi : Int) (zs : List Int) : Bool := decide (zs.length = 64) && zs.all (fun n => decide (lo ≤ n ∧ n ≤ hi))

theorem lev_all {lo hi : Int} {zs : List Int} (hz : zs.length = 64) (h : ∀ j, j < 64 → lo ≤ zs.getD j 0 ∧ zs.getD j 0 ≤ hi) : levB lo hi zs = true := by
  simp only [levB, hz, decide_true, Bool.true_and, List.all_eq_true, decide_eq_true_eq]
  intro n hn
  obtain ⟨i, hi', rfl⟩ := List.getElem_of_mem hn
  have h2 : zs.getD i 0 = zs[i] := by simp [hi']
  rw [← h2]
  exact h i (by omega)
theorem lev_at {lo hi : Int} {zs : List Int} (h : levB lo hi zs = true) : zs.length = 64 ∧ ∀ j, j < 64 → lo ≤ zs.getD j 0 ∧ zs.getD j 0 ≤ hi := by
  simp only [levB, Bool.and_eq_true, decide_eq_true_eq, List.all_eq_true] at h
  refine ⟨h.1, fun j hj => ?_⟩
  have hj' : j < zs.length := by omega
  have h2 : zs.getD j 0 = zs[j] := by simp [hj']
  rw [h2]
  exact h.2 _ (List.getElem_mem hj')

set_option maxHeartbeats 800000 in
theorem specLev (ao : Option Addr) (n cap : Nat) (zs : List Int) (lo hi : Int) (w : World) (hr : Rd .i64 w ao n zs) (b : Bool) (hb : Hid (levB lo hi zs = b)) :
    Calls Try.prog 69 #[.slice ao n cap, .int .i64 lo, .int .i64 hi] w fun e w' => e = .returned (.bool b) ∧ w.grownBy w' none := by
  by_cases h : n = 64
  · subst h
    have HR := hide hr
    have HZ := hide hr.1
    clear hr
    go_enter Try.func69, Try.ntmps69
    go_wp2
    go_loopw [7] (fun i wr => ∃ k : Nat, k ≤ 64 ∧ i = .int .i64 k ∧ (Hid (∀ j, j < k → lo ≤ zs.getD j 0 ∧ zs.getD j 0 ≤ hi)) ∧ w.grownBy wr none) (fun i _ => 64 - (intOf i).toNat)
    case atStart => exact ⟨0, Nat.zero_le _, rfl, fun j hj => absurd hj (by omega), World.grownBy.refl _ _⟩
    case round =>
      obtain ⟨k, hk, rfl, HK, hgk⟩ := hrel
      by_cases hlt : k < 64
      · obtain ⟨bb, off, rfl, hc⟩ := (unhide HR).2 k hlt
        have hcell := hgk.cell hc (by simp)
        obtain ⟨t, HT⟩ : ∃ t, Hid (decide (lo ≤ zs.getD k 0 ∧ zs.getD k 0 ≤ hi) = t) := ⟨_, rfl⟩
        clear hc
        obtain ⟨z, HX⟩ : ∃ z, Hid (zs.getD k 0 = z) := ⟨_, rfl⟩
        rw [unhide HX] at hcell HT
        go_wp2_with fail
        refine (between z lo hi t HT wr).mono ?_
        rintro e w2 ⟨rfl, rfl⟩
        cases t with
        | true =>
          go_wp2
          go_roundw
          case rel =>
            refine ⟨k + 1, by omega, by go_num, fun j hj => ?_, hgk⟩
            by_cases e : j = k
            · subst e; rw [unhide HX]; have := unhide HT; simpa using this
            · exact unhide HK j (by omega)
          case measure => simp [intOf]; omega
        | false =>
          have hf : b = false := by
            cases hbb : b with
            | false => rfl
            | true =>
              have h1 := (lev_at ((unhide hb).trans hbb)).2 k hlt
              rw [unhide HX] at h1
              have := unhide HT
              simp at this
              omega
          subst hf
          go_wp2
          go_ret
          exact ⟨rfl, hgk⟩
      · obtain rfl : k = 64 := by omega
        have ht : b = true := by rw [← unhide hb]; exact lev_all (unhide HZ) (unhide HK)
        subst ht
        go_wp2
        go_ret
        exact ⟨rfl, hgk⟩
  · have hb' : b = false := by rw [← unhide hb]; simp [levB, hr.1, h]
    subst hb'
    have hne : ((n : Int) != 64) = true := by simp; omega
    clear hr hb
    go_enter Try.func69, Try.ntmps69
    go_wp2
    go_ret
    exact ⟨rfl, World.grownBy.refl _ _⟩

end Go.Proofs.Ytkefpjbdkhifhaa
