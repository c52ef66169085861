/-
  Blocks as rows of waves, and back, in the program.
-/
import Derived.Test.YtjccngpipfmmbabTabZig
import Derived.Test.YtjccngpipfmmbabTabImpl2
namespace Go.Proofs.Ytjccngpipfmmbab
open Go.RowKit

def zz (k : Nat) : Nat := zzN.getD k 0
/-- Where a place stands in the order of waves. -/
def zzI (p : Nat) : Nat := zzN.idxOf p
theorem zz_lt : ∀ k, k < 64 → zz k < 64 := by decide
theorem zzI_zz : ∀ k, k < 64 → zzI (zz k) = k := by decide
theorem zz_zzI : ∀ p, p < 64 → zz (zzI p) = p := by decide
theorem zzI_lt : ∀ p, p < 64 → zzI p < 64 := by decide
def zigged (zs : List Int) : List Int := made (fun k => zs.getD (zz k) 0)
def unzigged (zs : List Int) : List Int := made (fun p => zs.getD (zzI p) 0)
/-- What has been put back behind k steps. -/
def unzTo (zs : List Int) (k : Nat) : List Int := made (fun p => if zzI p < k then zs.getD (zzI p) 0 else 0)
theorem unz_zero (zs : List Int) : unzTo zs 0 = zs64 := by
  simp only [unzTo, Nat.not_lt_zero, if_false]
  rfl
theorem made_congr {f g : Nat → Int} (h : ∀ p, p < 64 → f p = g p) : made f = made g := by
  unfold made
  apply List.map_congr_left
  intro p hp
  exact h p (by simpa using hp)
theorem unz_all (zs : List Int) : unzTo zs 64 = unzigged zs := made_congr (fun p hp => if_pos (zzI_lt p hp))
theorem made_set (f : Nat → Int) (j : Nat) (v : Int) (hj : j < 64) : (sq (made f)).setIfInBounds j (.int .i64 v) = sq (made (fun p => if p = j then v else f p)) := by
  apply Array.ext_getElem?
  intro i
  by_cases hi : i < 64
  · rw [Array.getElem?_setIfInBounds, sq_at _ i (by rw [made_len]; exact hi), sq_at _ i (by rw [made_len]; exact hi), sq_size, made_len, made_at _ i hi, made_at _ i hi]
    by_cases e : j = i
    · subst e; simp [hj]
    · simp [e, Ne.symm e]
  · rw [Array.getElem?_eq_none (by simp [sq_size, made_len]; omega), Array.getElem?_eq_none (by simp [sq_size, made_len]; omega)]
theorem unz_set (zs : List Int) (k : Nat) (h : k < 64) : (sq (unzTo zs k)).setIfInBounds (zz k) (.int .i64 (zs.getD k 0)) = sq (unzTo zs (k + 1)) := by
  unfold unzTo
  rw [made_set _ _ _ (zz_lt k h)]
  congr 1
  apply made_congr
  intro p hp
  by_cases e : p = zz k
  · subst e; simp [zzI_zz k h]
  · have hne : zzI p ≠ k := fun e2 => e (by rw [← e2, zz_zzI p hp])
    by_cases h1 : zzI p < k
    · simp [e, h1, show zzI p < k + 1 by omega]
    · simp [e, h1, show ¬ zzI p < k + 1 by omega]

set_option maxRecDepth 20000 in
set_option maxHeartbeats 1600000 in
theorem toZig (zs : List Int) (hz : zs.length = 64) (w : World) :
    Calls Try.prog 26 #[.agg (sq zs)] w fun e w' => e = .returned (.agg (sq (zigged zs))) ∧ w.grownBy w' none := by
  obtain ⟨W0, hW0⟩ : ∃ W0, ((w.alloc (.cells (sq zs) 39)).alloc (.cells #[.int .i64 0, .int .i64 0, .int .i64 0, .int .i64 0, .int .i64 0, .int .i64 0, .int .i64 0, .int .i64 0, .int .i64 0, .int .i64 0, .int .i64 0, .int .i64 0, .int .i64 0, .int .i64 0, .int .i64 0, .int .i64 0, .int .i64 0, .int .i64 0, .int .i64 0, .int .i64 0, .int .i64 0, .int .i64 0, .int .i64 0, .int .i64 0, .int .i64 0, .int .i64 0, .int .i64 0, .int .i64 0, .int .i64 0, .int .i64 0, .int .i64 0, .int .i64 0, .int .i64 0, .int .i64 0, .int .i64 0, .int .i64 0, .int .i64 0, .int .i64 0, .int .i64 0, .int .i64 0, .int .i64 0, .int .i64 0, .int .i64 0, .int .i64 0, .int .i64 0, .int .i64 0, .int .i64 0, .int .i64 0, .int .i64 0, .int .i64 0, .int .i64 0, .int .i64 0, .int .i64 0, .int .i64 0, .int .i64 0, .int .i64 0, .int .i64 0, .int .i64 0, .int .i64 0, .int .i64 0, .int .i64 0, .int .i64 0, .int .i64 0, .int .i64 0] 39)).alloc (.cells #[.int .i64 0, .int .i64 0, .int .i64 0, .int .i64 0, .int .i64 0, .int .i64 0, .int .i64 0, .int .i64 0, .int .i64 0, .int .i64 0, .int .i64 0, .int .i64 0, .int .i64 0, .int .i64 0, .int .i64 0, .int .i64 0, .int .i64 0, .int .i64 0, .int .i64 0, .int .i64 0, .int .i64 0, .int .i64 0, .int .i64 0, .int .i64 0, .int .i64 0, .int .i64 0, .int .i64 0, .int .i64 0, .int .i64 0, .int .i64 0, .int .i64 0, .int .i64 0, .int .i64 0, .int .i64 0, .int .i64 0, .int .i64 0, .int .i64 0, .int .i64 0, .int .i64 0, .int .i64 0, .int .i64 0, .int .i64 0, .int .i64 0, .int .i64 0, .int .i64 0, .int .i64 0, .int .i64 0, .int .i64 0, .int .i64 0, .int .i64 0, .int .i64 0, .int .i64 0, .int .i64 0, .int .i64 0, .int .i64 0, .int .i64 0, .int .i64 0, .int .i64 0, .int .i64 0, .int .i64 0, .int .i64 0, .int .i64 0, .int .i64 0, .int .i64 0] 39) = W0 := ⟨_, rfl⟩
  have G0 : w.grownBy W0 none := by rw [← hW0]; exact grown_alloc (grown_alloc (World.grownBy_alloc _ _ _) _) _
  have b0 : W0.heap[w.heap.size]? = some (.cells (sq zs) 39 (0, 0)) := by rw [← hW0, Below.heap_alloc _ _ _ (by simp; omega), Below.heap_alloc _ _ _ (by simp)]; exact heap_alloc_new w _
  have b1 : W0.heap[w.heap.size + 1]? = some (.cells (sq zs64) 39 (0, 0)) := by
    rw [← hW0, Below.heap_alloc _ _ _ (by simp), sq_z64]
    have := heap_alloc_new (w.alloc (.cells (sq zs) 39)) (.cells #[.int .i64 0, .int .i64 0, .int .i64 0, .int .i64 0, .int .i64 0, .int .i64 0, .int .i64 0, .int .i64 0, .int .i64 0, .int .i64 0, .int .i64 0, .int .i64 0, .int .i64 0, .int .i64 0, .int .i64 0, .int .i64 0, .int .i64 0, .int .i64 0, .int .i64 0, .int .i64 0, .int .i64 0, .int .i64 0, .int .i64 0, .int .i64 0, .int .i64 0, .int .i64 0, .int .i64 0, .int .i64 0, .int .i64 0, .int .i64 0, .int .i64 0, .int .i64 0, .int .i64 0, .int .i64 0, .int .i64 0, .int .i64 0, .int .i64 0, .int .i64 0, .int .i64 0, .int .i64 0, .int .i64 0, .int .i64 0, .int .i64 0, .int .i64 0, .int .i64 0, .int .i64 0, .int .i64 0, .int .i64 0, .int .i64 0, .int .i64 0, .int .i64 0, .int .i64 0, .int .i64 0, .int .i64 0, .int .i64 0, .int .i64 0, .int .i64 0, .int .i64 0, .int .i64 0, .int .i64 0, .int .i64 0, .int .i64 0, .int .i64 0, .int .i64 0] 39)
    simpa using this
  have b2 : W0.heap[w.heap.size + 2]? = some (.cells #[.int .i64 0, .int .i64 0, .int .i64 0, .int .i64 0, .int .i64 0, .int .i64 0, .int .i64 0, .int .i64 0, .int .i64 0, .int .i64 0, .int .i64 0, .int .i64 0, .int .i64 0, .int .i64 0, .int .i64 0, .int .i64 0, .int .i64 0, .int .i64 0, .int .i64 0, .int .i64 0, .int .i64 0, .int .i64 0, .int .i64 0, .int .i64 0, .int .i64 0, .int .i64 0, .int .i64 0, .int .i64 0, .int .i64 0, .int .i64 0, .int .i64 0, .int .i64 0, .int .i64 0, .int .i64 0, .int .i64 0, .int .i64 0, .int .i64 0, .int .i64 0, .int .i64 0, .int .i64 0, .int .i64 0, .int .i64 0, .int .i64 0, .int .i64 0, .int .i64 0, .int .i64 0, .int .i64 0, .int .i64 0, .int .i64 0, .int .i64 0, .int .i64 0, .int .i64 0, .int .i64 0, .int .i64 0, .int .i64 0, .int .i64 0, .int .i64 0, .int .i64 0, .int .i64 0, .int .i64 0, .int .i64 0, .int .i64 0, .int .i64 0, .int .i64 0] 39 (0, 0)) := by
    rw [← hW0]
    have := heap_alloc_new ((w.alloc (.cells (sq zs) 39)).alloc (.cells #[.int .i64 0, .int .i64 0, .int .i64 0, .int .i64 0, .int .i64 0, .int .i64 0, .int .i64 0, .int .i64 0, .int .i64 0, .int .i64 0, .int .i64 0, .int .i64 0, .int .i64 0, .int .i64 0, .int .i64 0, .int .i64 0, .int .i64 0, .int .i64 0, .int .i64 0, .int .i64 0, .int .i64 0, .int .i64 0, .int .i64 0, .int .i64 0, .int .i64 0, .int .i64 0, .int .i64 0, .int .i64 0, .int .i64 0, .int .i64 0, .int .i64 0, .int .i64 0, .int .i64 0, .int .i64 0, .int .i64 0, .int .i64 0, .int .i64 0, .int .i64 0, .int .i64 0, .int .i64 0, .int .i64 0, .int .i64 0, .int .i64 0, .int .i64 0, .int .i64 0, .int .i64 0, .int .i64 0, .int .i64 0, .int .i64 0, .int .i64 0, .int .i64 0, .int .i64 0, .int .i64 0, .int .i64 0, .int .i64 0, .int .i64 0, .int .i64 0, .int .i64 0, .int .i64 0, .int .i64 0, .int .i64 0, .int .i64 0, .int .i64 0, .int .i64 0] 39)) (.cells #[.int .i64 0, .int .i64 0, .int .i64 0, .int .i64 0, .int .i64 0, .int .i64 0, .int .i64 0, .int .i64 0, .int .i64 0, .int .i64 0, .int .i64 0, .int .i64 0, .int .i64 0, .int .i64 0, .int .i64 0, .int .i64 0, .int .i64 0, .int .i64 0, .int .i64 0, .int .i64 0, .int .i64 0, .int .i64 0, .int .i64 0, .int .i64 0, .int .i64 0, .int .i64 0, .int .i64 0, .int .i64 0, .int .i64 0, .int .i64 0, .int .i64 0, .int .i64 0, .int .i64 0, .int .i64 0, .int .i64 0, .int .i64 0, .int .i64 0, .int .i64 0, .int .i64 0, .int .i64 0, .int .i64 0, .int .i64 0, .int .i64 0, .int .i64 0, .int .i64 0, .int .i64 0, .int .i64 0, .int .i64 0, .int .i64 0, .int .i64 0, .int .i64 0, .int .i64 0, .int .i64 0, .int .i64 0, .int .i64 0, .int .i64 0, .int .i64 0, .int .i64 0, .int .i64 0, .int .i64 0, .int .i64 0, .int .i64 0, .int .i64 0, .int .i64 0] 39)
    simpa using this
  have s0 : W0.heap.size = w.heap.size + 3 := by rw [← hW0]; simp
  have HW := hide hW0
  have B0 := hide b0
  have B1 := hide b1
  have B2 := hide b2
  have HG0 := hide G0
  have HZ := hide hz
  clear hW0 b0 b1 b2 G0 hz
  go_enter Try.func26, Try.ntmps26
  go_wp2_with (rw [unhide HW]; clear HW; refine store_row rfl 39 _ _ rfl (w.heap.size + 2) rfl #[.int .i64 0, .int .i64 0, .int .i64 0, .int .i64 0, .int .i64 0, .int .i64 0, .int .i64 0, .int .i64 0, .int .i64 0, .int .i64 0, .int .i64 0, .int .i64 0, .int .i64 0, .int .i64 0, .int .i64 0, .int .i64 0, .int .i64 0, .int .i64 0, .int .i64 0, .int .i64 0, .int .i64 0, .int .i64 0, .int .i64 0, .int .i64 0, .int .i64 0, .int .i64 0, .int .i64 0, .int .i64 0, .int .i64 0, .int .i64 0, .int .i64 0, .int .i64 0, .int .i64 0, .int .i64 0, .int .i64 0, .int .i64 0, .int .i64 0, .int .i64 0, .int .i64 0, .int .i64 0, .int .i64 0, .int .i64 0, .int .i64 0, .int .i64 0, .int .i64 0, .int .i64 0, .int .i64 0, .int .i64 0, .int .i64 0, .int .i64 0, .int .i64 0, .int .i64 0, .int .i64 0, .int .i64 0, .int .i64 0, .int .i64 0, .int .i64 0, .int .i64 0, .int .i64 0, .int .i64 0, .int .i64 0, .int .i64 0, .int .i64 0, .int .i64 0] rfl #[.int .i64 0, .int .i64 0, .int .i64 0, .int .i64 0, .int .i64 0, .int .i64 0, .int .i64 0, .int .i64 0, .int .i64 0, .int .i64 0, .int .i64 0, .int .i64 0, .int .i64 0, .int .i64 0, .int .i64 0, .int .i64 0, .int .i64 0, .int .i64 0, .int .i64 0, .int .i64 0, .int .i64 0, .int .i64 0, .int .i64 0, .int .i64 0, .int .i64 0, .int .i64 0, .int .i64 0, .int .i64 0, .int .i64 0, .int .i64 0, .int .i64 0, .int .i64 0, .int .i64 0, .int .i64 0, .int .i64 0, .int .i64 0, .int .i64 0, .int .i64 0, .int .i64 0, .int .i64 0, .int .i64 0, .int .i64 0, .int .i64 0, .int .i64 0, .int .i64 0, .int .i64 0, .int .i64 0, .int .i64 0, .int .i64 0, .int .i64 0, .int .i64 0, .int .i64 0, .int .i64 0, .int .i64 0, .int .i64 0, .int .i64 0, .int .i64 0, .int .i64 0, .int .i64 0, .int .i64 0, .int .i64 0, .int .i64 0, .int .i64 0, .int .i64 0] 39 (unhide B2) rfl (by kernel_rfl) (by rw [← sq_z64]; exact sq_one _) ?_; intro w3 hB3 g3; rw [← sq_z64] at hB3)
  refine (zigZag w3).mono ?_
  rintro e w4 ⟨rfl, g4⟩
  have s3 := g3.size
  have s4 := g4.size
  have hB4 := (g4.block (w.heap.size + 2) (by omega) (by simp)).trans hB3
  have hR4 := (g4.block (w.heap.size + 1) (by omega) (by simp)).trans ((g3.block (w.heap.size + 1) (by omega) (by simp)).trans (unhide B1))
  have hS4 := (g4.block w.heap.size (by omega) (by simp)).trans ((g3.block w.heap.size (by omega) (by simp)).trans (unhide B0))
  have G4 : w.grownBy w4 none := grown_trans (grown_new (unhide HG0) g3 (fun g e => by simp at e; omega)) g4
  have HB4 := hide hB4
  have HR4 := hide hR4
  have HS4 := hide hS4
  have HG4 := hide G4
  clear hB4 hR4 hS4 G4 hB3 g3 g4
  go_wp2
  go_loopw [8] (fun i wr => ∃ k : Nat, k ≤ 64 ∧ i = .int .i64 k ∧ wr.heap[w.heap.size + 2]? = some (.cells (sq (mix (fun k => zs.getD (zz k) 0) zs64 k)) 39 (0, 0)) ∧ w4.grownBy wr (some (w.heap.size + 2))) (fun i _ => 64 - (intOf i).toNat)
  case atStart => exact ⟨0, Nat.zero_le _, rfl, by rw [mix_zero]; exact unhide HB4, World.grownBy.refl _ _⟩
  case round =>
    obtain ⟨k, hk, rfl, hM, hgk⟩ := hrel
    by_cases hlt : k < 64
    · obtain ⟨p, hp⟩ : ∃ p, zz k = p := ⟨_, rfl⟩
      have hp64 : p < 64 := by rw [← hp]; exact zz_lt k hlt
      have hat : ∀ w, (Instr.index 39 (.agg (sq zzL)) (.int .i64 (k : Int))).run Try.prog w = .ok (.int .i64 (p : Int)) w := fun w => by
        rw [idx zz_len (k : Int) (by omega) (by omega) w, Int.toNat_natCast]
        have e : zzL.getD k 0 = (p : Int) := by rw [← hp]; exact zzF_eq k
        rw [e]
      have hS := (hgk.block w.heap.size (by omega) (by simp)).trans (unhide HS4)
      have cS := sq_cell hS p (by rw [unhide HZ]; omega)
      have cM := sq_cell hM k (by rw [mix_len _ _ _ (by rw [zs64_len]; omega), zs64_len]; omega)
      have fM := sq_frozen hM k
      have HSET : Hid ((wr.setCell ⟨w.heap.size + 2, k, none⟩ (.int .i64 (zs.getD p 0))).heap[w.heap.size + 2]? = some (.cells (sq (mix (fun k => zs.getD (zz k) 0) zs64 (k + 1))) 39 (0, 0)) ∧ w4.grownBy (wr.setCell ⟨w.heap.size + 2, k, none⟩ (.int .i64 (zs.getD p 0))) (some (w.heap.size + 2))) := by
        refine ⟨?_, grown_trans hgk (grown_set wr _ _ _)⟩
        rw [heap_setCell_same wr (w.heap.size + 2) _ _ _ _ hM]
        rw [← hp, mix_set (fun k => zs.getD (zz k) 0) zs64 k (by rw [zs64_len]; omega)]
      clear hM hS hgk hp
      generalize zs.getD p 0 = z at cS HSET
      go_wp2
      go_roundw
      case rel => exact ⟨k + 1, by omega, by go_num, (unhide HSET).1, (unhide HSET).2⟩
      case measure => simp [intOf]; omega
    · obtain rfl : k = 64 := by omega
      rw [mix_all _ zs64 zs64_len] at hM
      have hbr := (hgk.block (w.heap.size + 1) (by omega) (by simp)).trans (unhide HR4)
      have HM := hide hM
      have HBR := hide hbr
      have HMS : Hid ((sq (zigged zs)).size = 64) := by unfold Hid; rw [sq_size, zigged, made_len]
      have HGF : Hid (w.grownBy wr none) := grown_new (unhide HG4) hgk (fun g e => by simp at e; omega)
      clear hM hbr hgk
      change Hid (wr.heap[w.heap.size + 2]? = some (.cells (sq (zigged zs)) 39 (0, 0))) at HM
      go_wp2_with (first | (refine load_row rfl 39 _ rfl (w.heap.size + 2) rfl (sq (zigged zs)) 39 (unhide HM) _ Try.underlying39 rfl (by rw [unhide HMS]; kernel_rfl) ?_) | (refine store_row rfl 39 _ _ rfl (w.heap.size + 1) rfl (sq (zigged zs)) rfl (sq zs64) 39 (unhide HBR) (by rw [unhide HMS, sq_size, zs64_len]) (by rw [unhide HMS]; kernel_rfl) (sq_one _) ?_; intro w6 hB6 g6))
      refine bodyPost_ret (v := .agg (sq (zigged zs))) ?_ rfl ⟨rfl, ?_⟩
      · rw [results_c1 rfl]
        exact run_loadVar_row w6 _ 39 39 _ (0, 0) _ hB6 Try.underlying39 rfl (by rw [unhide HMS]; kernel_rfl)
      · exact grown_new (unhide HGF) g6 (fun g e => by simp at e; omega)

set_option maxRecDepth 20000 in
set_option maxHeartbeats 1600000 in
theorem fromZig (zs : List Int) (hz : zs.length = 64) (w : World) :
    Calls Try.prog 28 #[.agg (sq zs)] w fun e w' => e = .returned (.agg (sq (unzigged zs))) ∧ w.grownBy w' none := by
  obtain ⟨W0, hW0⟩ : ∃ W0, ((w.alloc (.cells (sq zs) 39)).alloc (.cells #[.int .i64 0, .int .i64 0, .int .i64 0, .int .i64 0, .int .i64 0, .int .i64 0, .int .i64 0, .int .i64 0, .int .i64 0, .int .i64 0, .int .i64 0, .int .i64 0, .int .i64 0, .int .i64 0, .int .i64 0, .int .i64 0, .int .i64 0, .int .i64 0, .int .i64 0, .int .i64 0, .int .i64 0, .int .i64 0, .int .i64 0, .int .i64 0, .int .i64 0, .int .i64 0, .int .i64 0, .int .i64 0, .int .i64 0, .int .i64 0, .int .i64 0, .int .i64 0, .int .i64 0, .int .i64 0, .int .i64 0, .int .i64 0, .int .i64 0, .int .i64 0, .int .i64 0, .int .i64 0, .int .i64 0, .int .i64 0, .int .i64 0, .int .i64 0, .int .i64 0, .int .i64 0, .int .i64 0, .int .i64 0, .int .i64 0, .int .i64 0, .int .i64 0, .int .i64 0, .int .i64 0, .int .i64 0, .int .i64 0, .int .i64 0, .int .i64 0, .int .i64 0, .int .i64 0, .int .i64 0, .int .i64 0, .int .i64 0, .int .i64 0, .int .i64 0] 39)).alloc (.cells #[.int .i64 0, .int .i64 0, .int .i64 0, .int .i64 0, .int .i64 0, .int .i64 0, .int .i64 0, .int .i64 0, .int .i64 0, .int .i64 0, .int .i64 0, .int .i64 0, .int .i64 0, .int .i64 0, .int .i64 0, .int .i64 0, .int .i64 0, .int .i64 0, .int .i64 0, .int .i64 0, .int .i64 0, .int .i64 0, .int .i64 0, .int .i64 0, .int .i64 0, .int .i64 0, .int .i64 0, .int .i64 0, .int .i64 0, .int .i64 0, .int .i64 0, .int .i64 0, .int .i64 0, .int .i64 0, .int .i64 0, .int .i64 0, .int .i64 0, .int .i64 0, .int .i64 0, .int .i64 0, .int .i64 0, .int .i64 0, .int .i64 0, .int .i64 0, .int .i64 0, .int .i64 0, .int .i64 0, .int .i64 0, .int .i64 0, .int .i64 0, .int .i64 0, .int .i64 0, .int .i64 0, .int .i64 0, .int .i64 0, .int .i64 0, .int .i64 0, .int .i64 0, .int .i64 0, .int .i64 0, .int .i64 0, .int .i64 0, .int .i64 0, .int .i64 0] 39) = W0 := ⟨_, rfl⟩
  have G0 : w.grownBy W0 none := by rw [← hW0]; exact grown_alloc (grown_alloc (World.grownBy_alloc _ _ _) _) _
  have b0 : W0.heap[w.heap.size]? = some (.cells (sq zs) 39 (0, 0)) := by rw [← hW0, Below.heap_alloc _ _ _ (by simp; omega), Below.heap_alloc _ _ _ (by simp)]; exact heap_alloc_new w _
  have b1 : W0.heap[w.heap.size + 1]? = some (.cells (sq zs64) 39 (0, 0)) := by
    rw [← hW0, Below.heap_alloc _ _ _ (by simp), sq_z64]
    have := heap_alloc_new (w.alloc (.cells (sq zs) 39)) (.cells #[.int .i64 0, .int .i64 0, .int .i64 0, .int .i64 0, .int .i64 0, .int .i64 0, .int .i64 0, .int .i64 0, .int .i64 0, .int .i64 0, .int .i64 0, .int .i64 0, .int .i64 0, .int .i64 0, .int .i64 0, .int .i64 0, .int .i64 0, .int .i64 0, .int .i64 0, .int .i64 0, .int .i64 0, .int .i64 0, .int .i64 0, .int .i64 0, .int .i64 0, .int .i64 0, .int .i64 0, .int .i64 0, .int .i64 0, .int .i64 0, .int .i64 0, .int .i64 0, .int .i64 0, .int .i64 0, .int .i64 0, .int .i64 0, .int .i64 0, .int .i64 0, .int .i64 0, .int .i64 0, .int .i64 0, .int .i64 0, .int .i64 0, .int .i64 0, .int .i64 0, .int .i64 0, .int .i64 0, .int .i64 0, .int .i64 0, .int .i64 0, .int .i64 0, .int .i64 0, .int .i64 0, .int .i64 0, .int .i64 0, .int .i64 0, .int .i64 0, .int .i64 0, .int .i64 0, .int .i64 0, .int .i64 0, .int .i64 0, .int .i64 0, .int .i64 0] 39)
    simpa using this
  have b2 : W0.heap[w.heap.size + 2]? = some (.cells #[.int .i64 0, .int .i64 0, .int .i64 0, .int .i64 0, .int .i64 0, .int .i64 0, .int .i64 0, .int .i64 0, .int .i64 0, .int .i64 0, .int .i64 0, .int .i64 0, .int .i64 0, .int .i64 0, .int .i64 0, .int .i64 0, .int .i64 0, .int .i64 0, .int .i64 0, .int .i64 0, .int .i64 0, .int .i64 0, .int .i64 0, .int .i64 0, .int .i64 0, .int .i64 0, .int .i64 0, .int .i64 0, .int .i64 0, .int .i64 0, .int .i64 0, .int .i64 0, .int .i64 0, .int .i64 0, .int .i64 0, .int .i64 0, .int .i64 0, .int .i64 0, .int .i64 0, .int .i64 0, .int .i64 0, .int .i64 0, .int .i64 0, .int .i64 0, .int .i64 0, .int .i64 0, .int .i64 0, .int .i64 0, .int .i64 0, .int .i64 0, .int .i64 0, .int .i64 0, .int .i64 0, .int .i64 0, .int .i64 0, .int .i64 0, .int .i64 0, .int .i64 0, .int .i64 0, .int .i64 0, .int .i64 0, .int .i64 0, .int .i64 0, .int .i64 0] 39 (0, 0)) := by
    rw [← hW0]
    have := heap_alloc_new ((w.alloc (.cells (sq zs) 39)).alloc (.cells #[.int .i64 0, .int .i64 0, .int .i64 0, .int .i64 0, .int .i64 0, .int .i64 0, .int .i64 0, .int .i64 0, .int .i64 0, .int .i64 0, .int .i64 0, .int .i64 0, .int .i64 0, .int .i64 0, .int .i64 0, .int .i64 0, .int .i64 0, .int .i64 0, .int .i64 0, .int .i64 0, .int .i64 0, .int .i64 0, .int .i64 0, .int .i64 0, .int .i64 0, .int .i64 0, .int .i64 0, .int .i64 0, .int .i64 0, .int .i64 0, .int .i64 0, .int .i64 0, .int .i64 0, .int .i64 0, .int .i64 0, .int .i64 0, .int .i64 0, .int .i64 0, .int .i64 0, .int .i64 0, .int .i64 0, .int .i64 0, .int .i64 0, .int .i64 0, .int .i64 0, .int .i64 0, .int .i64 0, .int .i64 0, .int .i64 0, .int .i64 0, .int .i64 0, .int .i64 0, .int .i64 0, .int .i64 0, .int .i64 0, .int .i64 0, .int .i64 0, .int .i64 0, .int .i64 0, .int .i64 0, .int .i64 0, .int .i64 0, .int .i64 0, .int .i64 0] 39)) (.cells #[.int .i64 0, .int .i64 0, .int .i64 0, .int .i64 0, .int .i64 0, .int .i64 0, .int .i64 0, .int .i64 0, .int .i64 0, .int .i64 0, .int .i64 0, .int .i64 0, .int .i64 0, .int .i64 0, .int .i64 0, .int .i64 0, .int .i64 0, .int .i64 0, .int .i64 0, .int .i64 0, .int .i64 0, .int .i64 0, .int .i64 0, .int .i64 0, .int .i64 0, .int .i64 0, .int .i64 0, .int .i64 0, .int .i64 0, .int .i64 0, .int .i64 0, .int .i64 0, .int .i64 0, .int .i64 0, .int .i64 0, .int .i64 0, .int .i64 0, .int .i64 0, .int .i64 0, .int .i64 0, .int .i64 0, .int .i64 0, .int .i64 0, .int .i64 0, .int .i64 0, .int .i64 0, .int .i64 0, .int .i64 0, .int .i64 0, .int .i64 0, .int .i64 0, .int .i64 0, .int .i64 0, .int .i64 0, .int .i64 0, .int .i64 0, .int .i64 0, .int .i64 0, .int .i64 0, .int .i64 0, .int .i64 0, .int .i64 0, .int .i64 0, .int .i64 0] 39)
    simpa using this
  have s0 : W0.heap.size = w.heap.size + 3 := by rw [← hW0]; simp
  have HW := hide hW0
  have B0 := hide b0
  have B1 := hide b1
  have B2 := hide b2
  have HG0 := hide G0
  have HZ := hide hz
  clear hW0 b0 b1 b2 G0 hz
  go_enter Try.func28, Try.ntmps28
  go_wp2_with (rw [unhide HW]; clear HW; refine store_row rfl 39 _ _ rfl (w.heap.size + 2) rfl #[.int .i64 0, .int .i64 0, .int .i64 0, .int .i64 0, .int .i64 0, .int .i64 0, .int .i64 0, .int .i64 0, .int .i64 0, .int .i64 0, .int .i64 0, .int .i64 0, .int .i64 0, .int .i64 0, .int .i64 0, .int .i64 0, .int .i64 0, .int .i64 0, .int .i64 0, .int .i64 0, .int .i64 0, .int .i64 0, .int .i64 0, .int .i64 0, .int .i64 0, .int .i64 0, .int .i64 0, .int .i64 0, .int .i64 0, .int .i64 0, .int .i64 0, .int .i64 0, .int .i64 0, .int .i64 0, .int .i64 0, .int .i64 0, .int .i64 0, .int .i64 0, .int .i64 0, .int .i64 0, .int .i64 0, .int .i64 0, .int .i64 0, .int .i64 0, .int .i64 0, .int .i64 0, .int .i64 0, .int .i64 0, .int .i64 0, .int .i64 0, .int .i64 0, .int .i64 0, .int .i64 0, .int .i64 0, .int .i64 0, .int .i64 0, .int .i64 0, .int .i64 0, .int .i64 0, .int .i64 0, .int .i64 0, .int .i64 0, .int .i64 0, .int .i64 0] rfl #[.int .i64 0, .int .i64 0, .int .i64 0, .int .i64 0, .int .i64 0, .int .i64 0, .int .i64 0, .int .i64 0, .int .i64 0, .int .i64 0, .int .i64 0, .int .i64 0, .int .i64 0, .int .i64 0, .int .i64 0, .int .i64 0, .int .i64 0, .int .i64 0, .int .i64 0, .int .i64 0, .int .i64 0, .int .i64 0, .int .i64 0, .int .i64 0, .int .i64 0, .int .i64 0, .int .i64 0, .int .i64 0, .int .i64 0, .int .i64 0, .int .i64 0, .int .i64 0, .int .i64 0, .int .i64 0, .int .i64 0, .int .i64 0, .int .i64 0, .int .i64 0, .int .i64 0, .int .i64 0, .int .i64 0, .int .i64 0, .int .i64 0, .int .i64 0, .int .i64 0, .int .i64 0, .int .i64 0, .int .i64 0, .int .i64 0, .int .i64 0, .int .i64 0, .int .i64 0, .int .i64 0, .int .i64 0, .int .i64 0, .int .i64 0, .int .i64 0, .int .i64 0, .int .i64 0, .int .i64 0, .int .i64 0, .int .i64 0, .int .i64 0, .int .i64 0] 39 (unhide B2) rfl (by kernel_rfl) (by rw [← sq_z64]; exact sq_one _) ?_; intro w3 hB3 g3; rw [← sq_z64] at hB3)
  refine (zigZag w3).mono ?_
  rintro e w4 ⟨rfl, g4⟩
  have s3 := g3.size
  have s4 := g4.size
  have hB4 := (g4.block (w.heap.size + 2) (by omega) (by simp)).trans hB3
  have hR4 := (g4.block (w.heap.size + 1) (by omega) (by simp)).trans ((g3.block (w.heap.size + 1) (by omega) (by simp)).trans (unhide B1))
  have hS4 := (g4.block w.heap.size (by omega) (by simp)).trans ((g3.block w.heap.size (by omega) (by simp)).trans (unhide B0))
  have G4 : w.grownBy w4 none := grown_trans (grown_new (unhide HG0) g3 (fun g e => by simp at e; omega)) g4
  have HB4 := hide hB4
  have HR4 := hide hR4
  have HS4 := hide hS4
  have HG4 := hide G4
  clear hB4 hR4 hS4 G4 hB3 g3 g4
  go_wp2
  go_loopw [8] (fun i wr => ∃ k : Nat, k ≤ 64 ∧ i = .int .i64 k ∧ wr.heap[w.heap.size + 2]? = some (.cells (sq (unzTo zs k)) 39 (0, 0)) ∧ w4.grownBy wr (some (w.heap.size + 2))) (fun i _ => 64 - (intOf i).toNat)
  case atStart => exact ⟨0, Nat.zero_le _, rfl, by rw [unz_zero]; exact unhide HB4, World.grownBy.refl _ _⟩
  case round =>
    obtain ⟨k, hk, rfl, hM, hgk⟩ := hrel
    by_cases hlt : k < 64
    · obtain ⟨p, hp⟩ : ∃ p, zz k = p := ⟨_, rfl⟩
      have hp64 : p < 64 := by rw [← hp]; exact zz_lt k hlt
      have hat : ∀ w, (Instr.index 39 (.agg (sq zzL)) (.int .i64 (k : Int))).run Try.prog w = .ok (.int .i64 (p : Int)) w := fun w => by
        rw [idx zz_len (k : Int) (by omega) (by omega) w, Int.toNat_natCast]
        have e : zzL.getD k 0 = (p : Int) := by rw [← hp]; exact zzF_eq k
        rw [e]
      have hS := (hgk.block w.heap.size (by omega) (by simp)).trans (unhide HS4)
      have cS := sq_cell hS k (by rw [unhide HZ]; omega)
      have cM := sq_cell hM p (by rw [unzTo, made_len]; omega)
      have fM := sq_frozen hM p
      have HSET : Hid ((wr.setCell ⟨w.heap.size + 2, p, none⟩ (.int .i64 (zs.getD k 0))).heap[w.heap.size + 2]? = some (.cells (sq (unzTo zs (k + 1))) 39 (0, 0)) ∧ w4.grownBy (wr.setCell ⟨w.heap.size + 2, p, none⟩ (.int .i64 (zs.getD k 0))) (some (w.heap.size + 2))) := by
        refine ⟨?_, grown_trans hgk (grown_set wr _ _ _)⟩
        rw [heap_setCell_same wr (w.heap.size + 2) _ _ _ _ hM]
        rw [← hp, unz_set zs k hlt]
      clear hM hS hgk hp
      generalize zs.getD k 0 = z at cS HSET
      go_wp2
      go_roundw
      case rel => exact ⟨k + 1, by omega, by go_num, (unhide HSET).1, (unhide HSET).2⟩
      case measure => simp [intOf]; omega
    · obtain rfl : k = 64 := by omega
      rw [unz_all] at hM
      have hbr := (hgk.block (w.heap.size + 1) (by omega) (by simp)).trans (unhide HR4)
      have HM := hide hM
      have HBR := hide hbr
      have HMS : Hid ((sq (unzigged zs)).size = 64) := by unfold Hid; rw [sq_size, unzigged, made_len]
      have HGF : Hid (w.grownBy wr none) := grown_new (unhide HG4) hgk (fun g e => by simp at e; omega)
      clear hM hbr hgk
      skip
      go_wp2_with (first | (refine load_row rfl 39 _ rfl (w.heap.size + 2) rfl (sq (unzigged zs)) 39 (unhide HM) _ Try.underlying39 rfl (by rw [unhide HMS]; kernel_rfl) ?_) | (refine store_row rfl 39 _ _ rfl (w.heap.size + 1) rfl (sq (unzigged zs)) rfl (sq zs64) 39 (unhide HBR) (by rw [unhide HMS, sq_size, zs64_len]) (by rw [unhide HMS]; kernel_rfl) (sq_one _) ?_; intro w6 hB6 g6))
      refine bodyPost_ret (v := .agg (sq (unzigged zs))) ?_ rfl ⟨rfl, ?_⟩
      · rw [results_c1 rfl]
        exact run_loadVar_row w6 _ 39 39 _ (0, 0) _ hB6 Try.underlying39 rfl (by rw [unhide HMS]; kernel_rfl)
      · exact grown_new (unhide HGF) g6 (fun g e => by simp at e; omega)

end Go.Proofs.Ytjccngpipfmmbab
