/-
  The walk of the specification's Unstuff.
-/
import Derived.Test.YticecjodbhhcfaaDoorUnstuff
namespace Go.Proofs.YticecjodbhhcfaaDoor
open Go.RowKit

set_option maxRecDepth 8000 in
set_option maxHeartbeats 1600000 in
theorem specUnstuff (ao : Option Addr) (n cap : Nat) (zs : List Int) (w : World) (hr : Rd .u8 w ao n zs) (hn : n ≤ 4194304) :
    Calls Tryd.prog 44 #[.slice ao n cap] w fun e w' => ∃ bo cap', e = .returned (.tuple #[.slice bo (unst zs).1.length cap', .int .i64 (unst zs).2]) ∧
      w'.ownsRow w.heap.size 5 1 (.slice bo (unst zs).1.length cap') (unst zs).1.length ((unst zs).1.map (Value.int .u8)) ∧ w.grownBy w' none := by
  obtain ⟨i0, hi, hz0, hz1, hz2⟩ := info_parts Tryd.info5
  obtain ⟨hl, hc⟩ := hr
  have hown0 : (w.alloc (.cells #[] 5)).ownsRow w.heap.size 5 1 (.slice (some ⟨w.heap.size, 0, none⟩) 0 0) 0 [] := World.ownsRow_lit w #[] 0 (Nat.le_refl _) (by unfold maxLen; omega) rfl
  have hg0 : w.grownBy (w.alloc (.cells #[] 5)) none := World.grownBy_alloc _ _ _
  go_enter Tryd.func44, Tryd.ntmps44
  go_wp2
  go_loopw [4, 5] (fun v i wr => ∃ (acc : List Int) (k : Nat), k ≤ n ∧ acc.length ≤ k ∧ i = .int .i64 k ∧ Upto zs acc k ∧ wr.ownsRow w.heap.size 5 1 v acc.length (acc.map (Value.int .u8)) ∧ w.grownBy wr none) (fun _ i _ => n - (intOf i).toNat)
  case atStart => exact ⟨[], 0, Nat.zero_le _, Nat.le_refl _, rfl, upto_zero zs, hown0, hg0⟩
  case round =>
    obtain ⟨acc, k, hk, hak, rfl, hup, hownk, hgk⟩ := hrel
    clear hown0 hg0
    by_cases hlt : k < n
    · obtain ⟨b, off, rfl, hcb⟩ := hc k hlt
      have hcell := hgk.cell hcb (by simp)
      by_cases hx : zs.getD k 0 = 255
      · rw [hx] at hcell
        by_cases hp : k + 1 < n ∧ zs.getD (k + 1) 0 = 0
        · obtain ⟨hp1, hy⟩ := hp
          obtain ⟨b', off', hao, hcb'⟩ := hc (k + 1) hp1
          simp at hao
          obtain ⟨rfl, rfl⟩ := hao
          rw [hy] at hcb'
          have hcell2 : wr.cell? ⟨b, off + (k + 1), none⟩ = some (.int .u8 0) := hgk.cell hcb' (by simp)
          have HU := hide (upto_pair hup (by omega) hx hy)
          clear hup hx hy hc hcb hcb'
          go_wp2_with (at_builtin; refine wpList_append_own _ rfl _ _ 22 rfl w.heap.size 5 i0 (.int .u8 0) 1 1 Tryd.underlying22 hi hz0 hz1 hz2 rfl (by decide) _ _ _ rfl (hownk.alloc _) ⟨wr.heap.size, 0, none⟩ 1 1 [.int .u8 255] rfl rfl (cell_one_new _ _ _) ?d2 ?d3 ?d4 ?d5 ?_)
          case d2 => first | rfl | (intro u hu; simp at hu; subst hu; rfl)
          case d3 => unfold maxLen; omega
          case d4 => omega
          case d5 => have := hgk.size; simp; omega
          intro v' w1 hown' hgrow _
          have hg1 := grown_new (grown_trans hgk (World.grownBy_alloc _ _ _)) hgrow (fun g e => (hownk.lt g e).1)
          have hR : w1.ownsRow w.heap.size 5 1 v' (acc ++ [255]).length ((acc ++ [255]).map (Value.int .u8)) := by
            rw [List.length_append, List.map_append]; exact hown'
          clear hown' hgrow hownk hgk hcell hcell2
          go_wp2
          go_roundw
          case rel => exact ⟨acc ++ [255], k + 2, by omega, by simp; omega, by go_num, unhide HU, hR, hg1⟩
          case measure => simp [intOf]; omega
        · have hfin := upto_mark hup (by omega) hx (by intro h1 h2; exact hp ⟨by omega, h2⟩)
          have HF := hide hfin
          obtain ⟨bo, cap', rfl⟩ := own_form hownk
          clear hfin hup hx hcb
          by_cases hp1 : k + 1 < n
          · obtain ⟨b', off', hao, hcb'⟩ := hc (k + 1) hp1
            simp at hao
            obtain ⟨rfl, rfl⟩ := hao
            have hcell2 : wr.cell? ⟨b, off + (k + 1), none⟩ = some (.int .u8 (zs.getD (k + 1) 0)) := hgk.cell hcb' (by simp)
            have hyb : (zs.getD (k + 1) 0 != 0) = true := by rw [bne_iff_ne]; intro h2; exact hp ⟨hp1, h2⟩
            clear hc hcb' hp
            generalize zs.getD (k + 1) 0 = y at hcell2 hyb
            go_wp2
            go_ret2
            exact ⟨bo, cap', by rw [unhide HF]; rfl, by rw [unhide HF]; exact hownk, hgk⟩
          · clear hc hp
            go_wp2
            go_ret2
            exact ⟨bo, cap', by rw [unhide HF]; rfl, by rw [unhide HF]; exact hownk, hgk⟩
      · have hxb : (zs.getD k 0 == 255) = false := by simpa using hx
        have HU := hide (upto_other hup (by omega) hx)
        clear hup hx hc hcb
        generalize zs.getD k 0 = x at hcell hxb HU
        go_wp2_with (at_builtin; refine wpList_append_own _ rfl _ _ 22 rfl w.heap.size 5 i0 (.int .u8 0) 1 1 Tryd.underlying22 hi hz0 hz1 hz2 rfl (by decide) _ _ _ rfl (hownk.alloc _) ⟨wr.heap.size, 0, none⟩ 1 1 [.int .u8 x] rfl rfl (cell_one_new _ _ _) ?e2 ?e3 ?e4 ?e5 ?_)
        case e2 => first | rfl | (intro u hu; simp at hu; subst hu; rfl)
        case e3 => unfold maxLen; omega
        case e4 => omega
        case e5 => have := hgk.size; simp; omega
        intro v' w1 hown' hgrow _
        have hg1 := grown_new (grown_trans hgk (World.grownBy_alloc _ _ _)) hgrow (fun g e => (hownk.lt g e).1)
        have hR : w1.ownsRow w.heap.size 5 1 v' (acc ++ [x]).length ((acc ++ [x]).map (Value.int .u8)) := by
          rw [List.length_append, List.map_append]; exact hown'
        clear hown' hgrow hownk hgk hcell
        go_wp2
        go_roundw
        case rel => exact ⟨acc ++ [x], k + 1, by omega, by simp; omega, by go_num, unhide HU, hR, hg1⟩
        case measure => simp [intOf]; omega
    · have hkn : k = n := by omega
      subst hkn
      rw [← hl] at hup
      have HF := hide (upto_end hup)
      obtain ⟨bo, cap', rfl⟩ := own_form hownk
      clear hup
      go_wp2
      go_ret2
      exact ⟨bo, cap', by rw [unhide HF, hl]; rfl, by rw [unhide HF]; exact hownk, hgk⟩

end Go.Proofs.YticecjodbhhcfaaDoor
