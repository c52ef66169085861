/-
  The walks of the law's own small functions on rows of fields: copying, comparing, marking.
-/
import Derived.Test.YtemfonnkaddmfaaRows
import Derived.Test.YtemfonnkaddmfaaBinRows
import Derived.Deep.QuietTactic
import Derived.BigQuiet
import Derived.Deep.RegionWith
import Derived.Outline
namespace Go.Proofs.Ytemfonnkaddmfaa
open Go.RowKit

abbrev fvB (f : Int × Int) : Value := .agg #[.int .i64 f.1, .int .i64 f.2]

set_option maxHeartbeats 400000 in
theorem toBin (a b : Int) (w : World) :
    Calls Try.prog 41 #[.agg #[.int .i64 a, .int .i64 b]] w fun e w' => e = .returned (.agg #[.int .i64 a, .int .i64 b]) ∧ w.grownBy w' none := by
  go_enter Try.func41, Try.ntmps41
  go_wp2
  refine bodyPost_ret (v := .agg #[.int .i64 a, .int .i64 b]) (by simp [results, Try.results41, go_sem]) rfl ⟨rfl, ?_⟩
  exact grown_alloc (grown_alloc (grown_alloc (World.grownBy.refl _ _) _) _) _

set_option maxHeartbeats 400000 in
theorem toBinS (ao : Option Addr) (n cap : Nat) (fs : List (Int × Int)) (w : World) (hr : RdF w ao n fs) (hn : n ≤ 4194304) :
    Calls Try.prog 16 #[.slice ao n cap] w fun e w' => e = .returned (.slice (some ⟨w.heap.size, 0, none⟩) n n) ∧
      w'.ownsRow w.heap.size 30 2 (.slice (some ⟨w.heap.size, 0, none⟩) n n) n (flat fs) ∧ w.grownBy w' none := by
  obtain ⟨i0, hi, hz0, hz1, hz2⟩ := info_parts info_bin
  obtain ⟨hl, hc⟩ := hr
  go_enter Try.func16, Try.ntmps16
  go_wp2_with (at_make; refine wpList_make_full _ rfl _ _ 24 rfl w.heap.size 30 i0 (.agg #[.int .i64 0, .int .i64 0]) 2 Try.underlying24 hi hz0 hz1 .i64 .i64 _ _ n rfl rfl rfl rfl (by rw [hz2]; omega) (by unfold maxLen; omega) (Nat.le_refl _) ?_)
  intro w1 hown hgrow
  have hown0 : w1.ownsRow w.heap.size 30 2 (.slice (some ⟨w.heap.size, 0, none⟩) n n) n (partF fs 0) := by
    rw [partF_zero, hl, ← madeFields]; exact hown
  clear hown hi hz0 hz1 hz2
  go_wp2
  go_loopw [4] (fun i wr => ∃ (k : Nat), k ≤ n ∧ i = .int .i64 k ∧ wr.ownsRow w.heap.size 30 2 (.slice (some ⟨w.heap.size, 0, none⟩) n n) n (partF fs k) ∧ w.grownBy wr none) (fun i _ => n - (intOf i).toNat)
  case atStart => exact ⟨0, Nat.zero_le _, rfl, hown0, hgrow⟩
  case round =>
    obtain ⟨k, hk, rfl, hownk, hgk⟩ := hrel
    clear hown0 hgrow
    by_cases hlt : k < n
    · obtain ⟨b, off, rfl, hc1, hc2⟩ := hc k hlt
      have hcell1 := hgk.cell hc1 (by simp)
      have hcell2 := hgk.cell hc2 (by simp)
      have HS := hide (partF_set fs k (by omega))
      clear hc hc1 hc2
      generalize fs.getD k (0, 0) = f at hcell1 hcell2 HS
      obtain ⟨x, y⟩ := f
      go_wp2_with fail
      refine (toBin _ _ _).mono ?_
      rintro e w2 ⟨rfl, g2⟩
      have ho2 := own_grown hownk g2
      have hg2 := grown_trans hgk g2
      have hfro := ho2.frozenAt (k * 2)
      have hfro1 := ho2.frozenAt (k * 2 + 1)
      have hold : ∀ j, j < n * 2 → ∃ u, w2.cell? ⟨w.heap.size, j, none⟩ = some u := fun j hj => by rw [ho2.cellAt j hj]; exact ⟨_, List.getElem?_eq_getElem (by rw [ho2.1]; omega)⟩
      obtain ⟨u1, hu1⟩ := hold (k * 2) (by omega)
      obtain ⟨u2, hu2⟩ := hold (k * 2 + 1) (by omega)
      have hst := ho2.stored (k * 2) (.int .i64 x)
      have hst2 := hst.1.stored (k * 2 + 1) (.int .i64 y)
      rw [unhide HS] at hst2
      have hg' := grown_new (grown_new hg2 hst.2 (by intro g e; simp at e; omega)) hst2.2 (by intro g e; simp at e; omega)
      have HR := hst2.1
      clear hst hst2 hownk hgk ho2 hg2 hold g2 hcell1 hcell2
      go_wp2
      go_roundw
      case rel => exact ⟨k + 1, by omega, by go_num, HR, hg'⟩
      case measure => simp [intOf]; omega
    · have hkn : k = n := by omega
      subst hkn
      go_wp2
      go_ret
      rw [← hl, partF_all, hl] at hownk
      exact ⟨rfl, hownk, hgk⟩

set_option maxHeartbeats 400000 in
theorem eqBin (a b : Int) (w : World) :
    Calls Try.prog 42 #[.agg #[.int .i64 a, .int .i64 b], .agg #[.int .i64 a, .int .i64 b]] w fun e w' => e = .returned (.bool true) ∧ w.grownBy w' none := by
  go_enter Try.func42, Try.ntmps42
  go_wp2
  go_ret
  exact ⟨rfl, grown_alloc (grown_alloc (World.grownBy.refl _ _) _) _⟩

set_option maxHeartbeats 400000 in
theorem eqBinS (ao bo : Option Addr) (n cap cap' : Nat) (fs : List (Int × Int)) (w : World) (hx : RdF w ao n fs) (hy : RdF w bo n fs) (hn : n ≤ 4194304) :
    Calls Try.prog 18 #[.slice ao n cap, .slice bo n cap'] w fun e w' => e = .returned (.bool true) ∧ w.grownBy w' none := by
  obtain ⟨hl, hc⟩ := hx
  obtain ⟨_, hd⟩ := hy
  have hne : ((n : Int) != n) = false := by simp
  go_enter Try.func18, Try.ntmps18
  go_wp2
  go_loopw [5] (fun i wr => ∃ k : Nat, k ≤ n ∧ i = .int .i64 k ∧ w.grownBy wr none) (fun i _ => n - (intOf i).toNat)
  case atStart => exact ⟨0, Nat.zero_le _, rfl, World.grownBy.refl _ _⟩
  case round =>
    obtain ⟨k, hk, rfl, hgk⟩ := hrel
    by_cases hlt : k < n
    · obtain ⟨b, off, rfl, hc1, hc2⟩ := hc k hlt
      obtain ⟨b', off', rfl, hd1, hd2⟩ := hd k hlt
      have hca := hgk.cell hc1 (by simp)
      have hcb := hgk.cell hc2 (by simp)
      have hda := hgk.cell hd1 (by simp)
      have hdb := hgk.cell hd2 (by simp)
      clear hc hd hc1 hc2 hd1 hd2
      generalize fs.getD k (0, 0) = f at hca hcb hda hdb
      obtain ⟨x, y⟩ := f
      have hik : (k : Int) < (n : Int) := by omega
      go_wp2
      go_region_with (go_at_call 42; refine (eqBin x y _).mono ?_; rintro e w2 ⟨rfl, g2⟩)
      all_goals
        go_wp2
        go_roundw
        case rel => exact ⟨k + 1, by omega, by go_num, grown_trans (grown_drew hgk) g2⟩
        case measure => simp [intOf]; omega
    · go_wp2
      go_ret
      exact ⟨rfl, hgk⟩

set_option maxHeartbeats 400000 in
theorem markBinS (ao : Option Addr) (n cap base : Nat) (xs : List Value) (k0 : Int) (w : World) (ho : w.ownsRow base 30 2 (.slice ao n cap) n xs) (hn : n ≤ 4194304) (h0 : 0 ≤ k0) (h1 : k0 ≤ 1073741824) :
    Calls Try.prog 19 #[.slice ao n cap, .int .i64 k0] w fun e w' => e = .returned (.int .i64 (k0 + 2 * n)) ∧
      (∃ ys, w'.ownsRow base 30 2 (.slice ao n cap) n ys) ∧ w.grownBy w' (Value.slice ao n cap).ownBlock := by
  go_enter Try.func19, Try.ntmps19
  go_wp2
  go_loopw [1, 5] (fun c i wr => ∃ (k : Nat) (ys : List Value), k ≤ n ∧ i = .int .i64 k ∧ c = .int .i64 (k0 + 2 * k) ∧ wr.ownsRow base 30 2 (.slice ao n cap) n ys ∧ w.grownBy wr (Value.slice ao n cap).ownBlock) (fun _ i _ => n - (intOf i).toNat)
  case atStart => exact ⟨0, xs, Nat.zero_le _, rfl, by go_num, ho, World.grownBy.refl _ _⟩
  case round =>
    obtain ⟨k, ys, hk, rfl, rfl, hownk, hgk⟩ := hrel
    clear ho
    by_cases hlt : k < n
    · obtain ⟨g, rfl, _, _⟩ := own_at hownk (by omega)
      have hfro := hownk.frozenAt (k * 2)
      have hfro1 := hownk.frozenAt (k * 2 + 1)
      have hold : ∀ j, j < n * 2 → ∃ u, wr.cell? ⟨g, j, none⟩ = some u := fun j hj => by rw [hownk.cellAt j hj]; exact ⟨_, List.getElem?_eq_getElem (by rw [hownk.1]; omega)⟩
      obtain ⟨u1, hu1⟩ := hold (k * 2) (by omega)
      obtain ⟨u2, hu2⟩ := hold (k * 2 + 1) (by omega)
      have hst := hownk.stored (k * 2) (.int .i64 (k0 + 2 * k))
      have hst2 := hst.1.stored (k * 2 + 1) (.int .i64 (k0 + 2 * k + 1))
      have hg' := grown_trans (grown_trans hgk hst.2) hst2.2
      have HR := hst2.1
      clear hst hst2 hownk hgk hold
      go_wp2
      go_roundw
      case rel => exact ⟨k + 1, _, by omega, by go_num, by go_num, HR, hg'⟩
      case measure => simp [intOf]; omega
    · have hkn : k = n := by omega
      subst hkn
      go_wp2
      go_ret
      exact ⟨rfl, ⟨ys, hownk⟩, hgk⟩

theorem szBinS (ao : Option Addr) (n cap : Nat) (w : World) (hn : n ≤ 1048576) :
    Calls Try.prog 15 #[.slice ao n cap, .int .i64 1048576] w fun e w' => e = .returned (.int .i64 (1048576 - n)) ∧ w = w' := by
  have h : ¬ ((1048576 : Int) - n < 0) := by omega
  go_enter Try.func15, Try.ntmps15
  go_wp2
  go_ret
  exact ⟨rfl, rfl⟩
theorem szBinS_no (ao : Option Addr) (n cap : Nat) (w : World) (hn : 1048576 < n) (hm : n ≤ 9223372036854775807) :
    Calls Try.prog 15 #[.slice ao n cap, .int .i64 1048576] w fun e w' => e = .returned (.int .i64 (-1)) ∧ w = w' := by
  have h : (1048576 : Int) - n < 0 := by omega
  go_enter Try.func15, Try.ntmps15
  go_wp2
  go_ret
  exact ⟨rfl, rfl⟩

end Go.Proofs.Ytemfonnkaddmfaa
