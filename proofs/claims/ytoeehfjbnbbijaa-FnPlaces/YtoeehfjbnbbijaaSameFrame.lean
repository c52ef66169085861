/-
  The walk of the laws' own comparison of two frames.
-/
import Derived.Test.YtoeehfjbnbbijaaFrameRows
import Derived.Deep.QuietTactic
namespace Go.Proofs.Ytoeehfjbnbbijaa
open Go.RowKit

set_option maxRecDepth 20000 in
set_option maxHeartbeats 3200000 in
theorem sameFrame (p wd ht rs : Int) (ao bo : Option Addr) (n cap cap' : Nat) (C : Nat → Nat → Int) (w : World) (hx : RdC w ao n C) (hy : RdC w bo n C) (hn : n ≤ 4194304) :
    Calls Try.prog 25 #[.agg #[.int .i64 p, .int .i64 wd, .int .i64 ht, .int .i64 rs, .slice ao n cap], .agg #[.int .i64 p, .int .i64 wd, .int .i64 ht, .int .i64 rs, .slice bo n cap']] w fun e w' => e = .returned (.bool true) ∧ w.grownBy w' none := by
  have HX := hide hx
  have HY := hide hy
  clear hx hy
  have h0 : (p != p) = false := by simp
  have h1 : (wd != wd) = false := by simp
  have h2 : (ht != ht) = false := by simp
  have h3 : (rs != rs) = false := by simp
  have h4 : ((n : Int) != n) = false := by simp
  have G0 : w.grownBy ((w.alloc (.cells #[.int .i64 p, .int .i64 wd, .int .i64 ht, .int .i64 rs, .slice ao n cap] 40)).alloc (.cells #[.int .i64 p, .int .i64 wd, .int .i64 ht, .int .i64 rs, .slice bo n cap'] 40)) none := grown_alloc (grown_alloc (World.grownBy.refl _ _) _) _
  have G := hide G0
  have HA : Hid (((w.alloc (.cells #[.int .i64 p, .int .i64 wd, .int .i64 ht, .int .i64 rs, .slice ao n cap] 40)).alloc (.cells #[.int .i64 p, .int .i64 wd, .int .i64 ht, .int .i64 rs, .slice bo n cap'] 40)).cell? ⟨w.heap.size, 4, none⟩ = some (.slice ao n cap)) := by
    have h := heap_alloc_new w (.cells #[.int .i64 p, .int .i64 wd, .int .i64 ht, .int .i64 rs, .slice ao n cap] 40)
    exact (World.grownBy_alloc _ _ none).cell (by rw [cell_of_row _ _ 4 _ _ (0, 0) h]; rfl) (by simp)
  have HB : Hid (((w.alloc (.cells #[.int .i64 p, .int .i64 wd, .int .i64 ht, .int .i64 rs, .slice ao n cap] 40)).alloc (.cells #[.int .i64 p, .int .i64 wd, .int .i64 ht, .int .i64 rs, .slice bo n cap'] 40)).cell? ⟨w.heap.size + 1, 4, none⟩ = some (.slice bo n cap')) := by
    have h := heap_alloc_new (w.alloc (.cells #[.int .i64 p, .int .i64 wd, .int .i64 ht, .int .i64 rs, .slice ao n cap] 40)) (.cells #[.int .i64 p, .int .i64 wd, .int .i64 ht, .int .i64 rs, .slice bo n cap'] 40)
    have e : (w.alloc (.cells #[.int .i64 p, .int .i64 wd, .int .i64 ht, .int .i64 rs, .slice ao n cap] 40)).heap.size = w.heap.size + 1 := by simp
    rw [e] at h
    unfold Hid
    rw [cell_of_row _ _ 4 _ _ (0, 0) h]; rfl
  clear G0
  go_enter Try.func25, Try.ntmps25
  go_wp2
  generalize ((w.alloc (.cells #[.int .i64 p, .int .i64 wd, .int .i64 ht, .int .i64 rs, .slice ao n cap] 40)).alloc (.cells #[.int .i64 p, .int .i64 wd, .int .i64 ht, .int .i64 rs, .slice bo n cap'] 40)) = wx at *
  go_loopw [5] (fun i wr => ∃ k : Nat, k ≤ n ∧ i = .int .i64 k ∧ wx.grownBy wr none) (fun i _ => n - (intOf i).toNat)
  case atStart => exact ⟨0, Nat.zero_le _, rfl, World.grownBy.refl _ _⟩
  case round =>
    obtain ⟨k, hk, rfl, hgk⟩ := hrel
    have ha := hgk.cell (unhide HA) (by simp)
    have hb := hgk.cell (unhide HB) (by simp)
    by_cases hlt : k < n
    · obtain ⟨b, off, rfl, hc⟩ := ((unhide HX).grown (unhide G)) k hlt
      obtain ⟨b', off', rfl, hd⟩ := ((unhide HY).grown (unhide G)) k hlt
      have hc' := fun j hj => hgk.cell (hc j hj) (by simp)
      have hd' := fun j hj => hgk.cell (hd j hj) (by simp)
      have a0 := hc' 0 (by omega)
      have a1 := hc' 1 (by omega)
      have a2 := hc' 2 (by omega)
      have a3 := hc' 3 (by omega)
      have b0 := hd' 0 (by omega)
      have b1 := hd' 1 (by omega)
      have b2 := hd' 2 (by omega)
      have b3 := hd' 3 (by omega)
      rw [Nat.add_zero] at a0 b0
      clear hc hc' hd hd'
      generalize C k 0 = c0 at *
      generalize C k 1 = c1 at *
      generalize C k 2 = c2 at *
      generalize C k 3 = c3 at *
      have hik : (k : Int) < (n : Int) := by omega
      go_wp2
      go_quiet (fail)
      go_wp2
      go_roundw
      case rel => exact ⟨k + 1, by omega, by go_num, grown_drewN hgk _⟩
      case measure => simp [intOf]; omega
    · go_wp2
      go_ret
      exact ⟨rfl, grown_trans (unhide G) hgk⟩

end Go.Proofs.Ytoeehfjbnbbijaa
