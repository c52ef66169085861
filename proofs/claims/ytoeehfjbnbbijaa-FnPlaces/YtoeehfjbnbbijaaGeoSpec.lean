/-
  Geometry in the specification: the greatest ones, units, sizes and blocks.
-/
import Derived.Test.YtoeehfjbnbbijaaFrameSpec
import Derived.Test.YtoeehfjbnbbijaaGeoPure
import Derived.Deep.RegionHeld3
namespace Go.Proofs.Ytoeehfjbnbbijaa
open Go.RowKit

theorem specUp (n d u : Int) (hn : 1 ≤ n ∧ n ≤ 1000000) (hd : 1 ≤ d ∧ d ≤ 1000000) (hu : Hid (upI n d = u)) (w : World) :
    Calls Try.prog 80 #[.int .i64 n, .int .i64 d] w fun e w' => e = .returned (.int .i64 u) ∧ w = w' := by
  have hd0 : (d == 0) = false := by simp; omega
  have hm1 : (d == -1) = false := by simp; omega
  have he : Hid ((n + d - 1) / d = u) := by rw [← unhide hu, upI, Int.tdiv_eq_ediv_of_nonneg (by omega)]; rfl
  go_enter Try.func80, Try.ntmps80
  go_wp2
  go_ret
  exact ⟨by simp [unhide he], rfl⟩

theorem frameCells' {w : World} {g : Nat} {a b c d v : Value} {t : TypeId} (hb : w.heap[g]? = some (.cells #[a, b, c, d, v] t (0, 0))) :
    w.cell? ⟨g, 0, none⟩ = some a ∧ w.cell? ⟨g, 1, none⟩ = some b ∧ w.cell? ⟨g, 2, none⟩ = some c ∧ w.cell? ⟨g, 3, none⟩ = some d ∧ w.cell? ⟨g, 4, none⟩ = some v :=
  ⟨by rw [cell_of_row w _ 0 _ _ (0, 0) hb]; rfl, by rw [cell_of_row w _ 1 _ _ (0, 0) hb]; rfl, by rw [cell_of_row w _ 2 _ _ (0, 0) hb]; rfl, by rw [cell_of_row w _ 3 _ _ (0, 0) hb]; rfl, by rw [cell_of_row w _ 4 _ _ (0, 0) hb]; rfl⟩

set_option maxHeartbeats 1600000 in
theorem specMost (p wd ht rs : Int) (ao : Option Addr) (n cap : Nat) (C : Nat → Nat → Int) (w : World) (hr : RdC w ao n C) (hn : n ≤ 4194304) (mh mv : Int) (HH : Hid (mostA 1 C 1 n = mh)) (HV : Hid (mostA 1 C 2 n = mv)) :
    Calls Try.prog 90 #[.agg #[.int .i64 p, .int .i64 wd, .int .i64 ht, .int .i64 rs, .slice ao n cap]] w fun e w' => e = .returned (.tuple #[.int .i64 mh, .int .i64 mv]) ∧ w.grownBy w' none := by
  have G0 : Hid (w.grownBy (w.alloc (.cells #[.int .i64 p, .int .i64 wd, .int .i64 ht, .int .i64 rs, .slice ao n cap] 40)) none) := grown_alloc (World.grownBy.refl _ _) _
  have HB := hide (heap_alloc_new w (.cells #[.int .i64 p, .int .i64 wd, .int .i64 ht, .int .i64 rs, .slice ao n cap] 40))
  have HR := hide (hr.grown (unhide G0))
  clear hr
  go_enter Try.func90, Try.ntmps90
  go_wp2
  generalize (w.alloc (.cells #[.int .i64 p, .int .i64 wd, .int .i64 ht, .int .i64 rs, .slice ao n cap] 40)) = wx at *
  have cf := frameCells' (unhide HB)
  go_loopw [4, 5, 6] (fun h v i wr => ∃ k : Nat, k ≤ n ∧ i = .int .i64 k ∧ h = .int .i64 (mostA 1 C 1 k) ∧ v = .int .i64 (mostA 1 C 2 k) ∧ wr = wx) (fun _ _ i _ => n - (intOf i).toNat)
  case atStart => exact ⟨0, Nat.zero_le _, rfl, rfl, rfl, rfl⟩
  case round =>
    obtain ⟨k, hk, rfl, rfl, rfl, rfl⟩ := hrel
    by_cases hlt : k < n
    · obtain ⟨bb, off, rfl, hc⟩ := (unhide HR) k hlt
      have c1 := hc 1 (by omega)
      have c2 := hc 2 (by omega)
      clear hc
      have S1 : Hid (mostA 1 C 1 (k + 1) = max (mostA 1 C 1 k) (C k 1)) := rfl
      have S2 : Hid (mostA 1 C 2 (k + 1) = max (mostA 1 C 2 k) (C k 2)) := rfl
      generalize mostA 1 C 1 k = m1 at *
      generalize mostA 1 C 2 k = m2 at *
      generalize C k 1 = x1 at *
      generalize C k 2 = x2 at *
      by_cases q1 : m1 < x1 <;> by_cases q2 : m2 < x2
      all_goals
        go_wp2
        go_roundw
        case rel => exact ⟨k + 1, by omega, by go_num, by rw [unhide S1]; first | rw [Int.max_eq_right (by omega)] | rw [Int.max_eq_left (by omega)], by rw [unhide S2]; first | rw [Int.max_eq_right (by omega)] | rw [Int.max_eq_left (by omega)], trivial⟩
        case measure => simp [intOf]; omega
    · have hkn : k = n := by omega
      subst hkn
      rw [unhide HH, unhide HV]
      go_wp2
      refine bodyPost_ret (v := .tuple #[.int .i64 mh, .int .i64 mv]) (by simp [results, Try.results90, go_sem]) rfl ⟨rfl, unhide G0⟩

end Go.Proofs.Ytoeehfjbnbbijaa
