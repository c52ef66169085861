/-
  TabImpl, TabImpl2, TreeGA, GridRows, GridImpl, GridLists, TreeGS, PlaneRows, PlanesImpl.
-/
import Derived.Deep.RegionHeld3
import Derived.Shelf.Abstract
import Derived.Test.YtibgldanmhckiaaRows
import Derived.Maps.AppendAt
import Derived.Deep.AppendLies
import Derived.Test.YtibgldanmhckiaaMFi

namespace Go.Proofs.Ytibgldanmhckiaa
open Go.RowKit

set_option maxRecDepth 20000 in
set_option maxHeartbeats 800000 in
theorem each (zs : List Int) (hz : zs.length = 64) (f : Nat → Int) (g : Nat) (lb : Array Value) (eg : ∀ args w, (callFunc g args).run Try.prog w = .ok (.enter g args) w) (w : World)
    (HC : Hid (∀ k, k < 64 → ∀ W, w.grownBy W none → Calls Try.prog g (#[.int .i64 (zs.getD k 0)] ++ lb) W fun e W' => e = .returned (.int .i64 (f k)) ∧ W.grownBy W' none)) :
    Calls Try.prog 103 #[.agg (sq zs), .func (.func g) #[] lb] w fun e w' => e = .returned (.agg (sq (made f))) ∧ w.grownBy w' none := by
  have hs : (sq zs).size = 64 := by rw [sq_size, hz]
  obtain ⟨W0, hW0⟩ : ∃ W0, ((w.alloc (.cells (sq zs) 80)).alloc (.cells #[.int .i64 0, .int .i64 0, .int .i64 0, .int .i64 0, .int .i64 0, .int .i64 0, .int .i64 0, .int .i64 0, .int .i64 0, .int .i64 0, .int .i64 0, .int .i64 0, .int .i64 0, .int .i64 0, .int .i64 0, .int .i64 0, .int .i64 0, .int .i64 0, .int .i64 0, .int .i64 0, .int .i64 0, .int .i64 0, .int .i64 0, .int .i64 0, .int .i64 0, .int .i64 0, .int .i64 0, .int .i64 0, .int .i64 0, .int .i64 0, .int .i64 0, .int .i64 0, .int .i64 0, .int .i64 0, .int .i64 0, .int .i64 0, .int .i64 0, .int .i64 0, .int .i64 0, .int .i64 0, .int .i64 0, .int .i64 0, .int .i64 0, .int .i64 0, .int .i64 0, .int .i64 0, .int .i64 0, .int .i64 0, .int .i64 0, .int .i64 0, .int .i64 0, .int .i64 0, .int .i64 0, .int .i64 0, .int .i64 0, .int .i64 0, .int .i64 0, .int .i64 0, .int .i64 0, .int .i64 0, .int .i64 0, .int .i64 0, .int .i64 0, .int .i64 0] 80)) = W0 := ⟨_, rfl⟩
  have b0 : W0.heap[w.heap.size]? = some (.cells (sq zs) 80 (0, 0)) := by
    rw [← hW0, Below.heap_alloc _ _ _ (by simp)]
    exact heap_alloc_new w _
  have b1 : W0.heap[w.heap.size + 1]? = some (.cells (sq zs64) 80 (0, 0)) := by
    rw [← hW0, sq_z64]
    have := heap_alloc_new (w.alloc (.cells (sq zs) 80)) (.cells #[.int .i64 0, .int .i64 0, .int .i64 0, .int .i64 0, .int .i64 0, .int .i64 0, .int .i64 0, .int .i64 0, .int .i64 0, .int .i64 0, .int .i64 0, .int .i64 0, .int .i64 0, .int .i64 0, .int .i64 0, .int .i64 0, .int .i64 0, .int .i64 0, .int .i64 0, .int .i64 0, .int .i64 0, .int .i64 0, .int .i64 0, .int .i64 0, .int .i64 0, .int .i64 0, .int .i64 0, .int .i64 0, .int .i64 0, .int .i64 0, .int .i64 0, .int .i64 0, .int .i64 0, .int .i64 0, .int .i64 0, .int .i64 0, .int .i64 0, .int .i64 0, .int .i64 0, .int .i64 0, .int .i64 0, .int .i64 0, .int .i64 0, .int .i64 0, .int .i64 0, .int .i64 0, .int .i64 0, .int .i64 0, .int .i64 0, .int .i64 0, .int .i64 0, .int .i64 0, .int .i64 0, .int .i64 0, .int .i64 0, .int .i64 0, .int .i64 0, .int .i64 0, .int .i64 0, .int .i64 0, .int .i64 0, .int .i64 0, .int .i64 0, .int .i64 0] 80)
    simpa using this
  have hsz : W0.heap.size = w.heap.size + 2 := by rw [← hW0]; simp
  have G0 : Hid (w.grownBy W0 none) := by rw [← hW0]; exact grown_alloc (grown_alloc (World.grownBy.refl _ _) _) _
  have HW := hide hW0
  have B0 := hide b0
  have B1 := hide b1
  have HS := hide hs
  have HZ := hide hz
  clear hW0 b0 b1 hz
  go_enter Try.func103, Try.ntmps103
  go_wp2_with (rw [unhide HW]; refine load_row rfl 80 _ rfl w.heap.size rfl (sq zs) 80 (unhide B0) _ Try.underlying80 rfl (by rw [unhide HS]; kernel_rfl) ?_)
  clear HW hs
  go_loopw [8] (fun i wr => ∃ k : Nat, k ≤ 64 ∧ i = .int .i64 k ∧ wr.heap[w.heap.size]? = some (.cells (sq (mix f zs k)) 80 (0, 0)) ∧ W0.grownBy wr (some w.heap.size)) (fun i _ => 64 - (intOf i).toNat)
  case atStart => exact ⟨0, Nat.zero_le _, rfl, by rw [mix_zero]; exact unhide B0, World.grownBy.refl _ _⟩
  case round =>
    obtain ⟨k, hk, rfl, hM, hgk⟩ := hrel
    by_cases hlt : k < 64
    · have hat := fun w => idx (unhide HZ) (k : Int) (by omega) (by omega) w
      simp only [Int.toNat_natCast] at hat
      have hl : (mix f zs k).length = 64 := (mix_len f zs k (by have := unhide HZ; omega)).trans (unhide HZ)
      have G1 : Hid (w.grownBy wr none) := grown_new (unhide G0) hgk (fun g e => by simp at e; omega)
      go_wp2_with fail
      refine (unhide HC k hlt wr (unhide G1)).mono ?_
      rintro e W2 ⟨rfl, g2⟩
      have hM2 := (g2.block w.heap.size (by have := hgk.size; omega) (by simp)).trans hM
      have c2 := sq_cell hM2 k (by omega)
      have f2 := sq_frozen hM2 k
      have hM3 := heap_setCell_same W2 w.heap.size k _ _ (.int .i64 (f k)) hM2
      rw [mix_set f zs k (by have := unhide HZ; omega)] at hM3
      have hg3 := grown_trans (grown_trans hgk (grown_any g2)) (grown_set W2 w.heap.size k (.int .i64 (f k)))
      have H3 := hide hM3
      have HG3 := hide hg3
      clear hM hM2 hM3 hg3 hgk g2 hat
      go_wp2
      go_roundw
      case rel => exact ⟨k + 1, by omega, by go_num, unhide H3, unhide HG3⟩
      case measure => simp [intOf]; omega
    · obtain rfl : k = 64 := by omega
      rw [mix_all f zs (unhide HZ)] at hM
      have hbr := (hgk.block (w.heap.size + 1) (by omega) (by simp)).trans (unhide B1)
      have hms : (sq (made f)).size = 64 := by rw [sq_size, made_len]
      have HM := hide hM
      have HBR := hide hbr
      have HMS := hide hms
      clear hM hbr hms
      go_wp2_with (first | (refine load_row rfl 80 _ rfl w.heap.size rfl (sq (made f)) 80 (unhide HM) _ Try.underlying80 rfl (by rw [unhide HMS]; kernel_rfl) ?_) | (refine store_row rfl 80 _ _ rfl (w.heap.size + 1) rfl (sq (made f)) rfl (sq zs64) 80 (unhide HBR) (by rw [unhide HMS, sq_size, zs64_len]) (by rw [unhide HMS]; kernel_rfl) (sq_one _) ?_; intro w3 hB3 g3))
      refine bodyPost_ret (v := .agg (sq (made f))) ?_ rfl ⟨rfl, ?_⟩
      · rw [results_c1 rfl]
        exact run_loadVar_row w3 _ 80 80 _ (0, 0) _ hB3 Try.underlying80 rfl (by rw [unhide HMS]; kernel_rfl)
      · exact grown_new (grown_new (unhide G0) hgk (fun g e => by simp at e; omega)) g3 (fun g e => by simp at e; omega)

theorem ints_one (zs : List Int) : ∀ u ∈ zs.map (Value.int .i64), u.oneCell' = true := by
  intro u hu
  obtain ⟨y, _, rfl⟩ := List.mem_map.1 hu
  rfl
set_option maxRecDepth 20000 in
theorem clone (ad : Addr) (cap : Nat) (zs : List Int) (w : World) (hr : Rd .i64 w (some ad) 64 zs) :
    Calls Try.prog 88 #[.slice (some ad) 64 cap] w fun e w' => ∃ v, e = .returned v ∧ w'.ownsRow w.heap.size 3 1 v 64 (zs.map (Value.int .i64)) ∧ w.grownBy w' none := by
  obtain ⟨i0, hi, hz0, hz1, hz2⟩ := info_parts Try.info3
  have HR := hide hr
  clear hr
  have hne : ∀ w, (binOp .eql 32 (.slice (some ad) 64 cap) (.slice none 0 0)).run Try.prog w = .ok (.bool false) w := fun w => by kernel_rfl
  go_enter Try.func88, Try.ntmps88
  go_wp2_with (at_builtin; refine wpList_append_own _ rfl _ _ 32 rfl w.heap.size 3 i0 (.int .i64 0) 1 8 Try.underlying32 hi hz0 hz1 hz2 rfl (by decide) _ 0 [] rfl (World.ownsRow_lit w #[] 0 (Nat.le_refl _) (by decide) rfl) ad 64 cap (zs.map (Value.int .i64)) rfl (by simp [(unhide HR).1]) (rd_newsI ((unhide HR).grown (World.grownBy_alloc _ _ _))) (ints_one zs) (by decide) (by decide) (by simp) ?_)
  intro v' w' hown hg _
  go_wp2
  go_ret
  exact ⟨_, rfl, hown, grown_new (World.grownBy_alloc _ _ _) hg (fun g e => by simp [Value.ownBlock] at e; omega)⟩

theorem list (zs : List Int) (hz : zs.length = 64) (w : World) :
    Calls Try.prog 55 #[.agg (sq zs)] w fun e w' => ∃ v, e = .returned v ∧ w'.ownsRow w.heap.size 3 1 v 64 (zs.map (Value.int .i64)) ∧ w.grownBy w' none := by
  have hr : Rd .i64 (w.alloc (.cells (sq zs) 80)) (some ⟨w.heap.size, 0, none⟩) 64 zs :=
    ⟨hz, fun i hi => ⟨_, _, rfl, by rw [Nat.zero_add]; exact sq_cell (heap_alloc_new w _) i (by omega)⟩⟩
  go_enter Try.func55, Try.ntmps55
  go_wp2_with fail
  refine (clone _ _ zs _ hr).mono ?_
  rintro e w1 ⟨v, rfl, ho, hg⟩
  go_wp2
  go_ret
  exact ⟨_, rfl, own_base ho (by simp), grown_trans (grown_alloc (World.grownBy.refl _ _) _) hg⟩

end Go.Proofs.Ytibgldanmhckiaa

namespace Go.Proofs.Ytibgldanmhckiaa
open Go.RowKit Go.Shelf

theorem z64_one : (#[.int .i64 0, .int .i64 0, .int .i64 0, .int .i64 0, .int .i64 0, .int .i64 0, .int .i64 0, .int .i64 0, .int .i64 0, .int .i64 0, .int .i64 0, .int .i64 0, .int .i64 0, .int .i64 0, .int .i64 0, .int .i64 0, .int .i64 0, .int .i64 0, .int .i64 0, .int .i64 0, .int .i64 0, .int .i64 0, .int .i64 0, .int .i64 0, .int .i64 0, .int .i64 0, .int .i64 0, .int .i64 0, .int .i64 0, .int .i64 0, .int .i64 0, .int .i64 0, .int .i64 0, .int .i64 0, .int .i64 0, .int .i64 0, .int .i64 0, .int .i64 0, .int .i64 0, .int .i64 0, .int .i64 0, .int .i64 0, .int .i64 0, .int .i64 0, .int .i64 0, .int .i64 0, .int .i64 0, .int .i64 0, .int .i64 0, .int .i64 0, .int .i64 0, .int .i64 0, .int .i64 0, .int .i64 0, .int .i64 0, .int .i64 0, .int .i64 0, .int .i64 0, .int .i64 0, .int .i64 0, .int .i64 0, .int .i64 0, .int .i64 0, .int .i64 0] : Array Value).all (·.oneCell') = true := by rw [← sq_z64]; exact sq_one _

set_option maxRecDepth 20000 in
set_option maxHeartbeats 800000 in
/-- A list that is no square. -/
theorem fixSquare_no (ao : Option Addr) (n cap : Nat) (g : Value) (w : World) (h : n ≠ 64) :
    Calls Try.prog 76 #[.slice ao n cap, g] w fun e w' => e = .returned (.tuple #[.agg (sq zs64), .bool false]) ∧ w.grownBy w' none := by
  have hne : ((n : Int) != 64) = true := by simp; omega
  clear h
  go_enter Try.func76, Try.ntmps76
  go_wp2_with (refine store_row rfl 80 _ _ rfl w.heap.size rfl #[.int .i64 0, .int .i64 0, .int .i64 0, .int .i64 0, .int .i64 0, .int .i64 0, .int .i64 0, .int .i64 0, .int .i64 0, .int .i64 0, .int .i64 0, .int .i64 0, .int .i64 0, .int .i64 0, .int .i64 0, .int .i64 0, .int .i64 0, .int .i64 0, .int .i64 0, .int .i64 0, .int .i64 0, .int .i64 0, .int .i64 0, .int .i64 0, .int .i64 0, .int .i64 0, .int .i64 0, .int .i64 0, .int .i64 0, .int .i64 0, .int .i64 0, .int .i64 0, .int .i64 0, .int .i64 0, .int .i64 0, .int .i64 0, .int .i64 0, .int .i64 0, .int .i64 0, .int .i64 0, .int .i64 0, .int .i64 0, .int .i64 0, .int .i64 0, .int .i64 0, .int .i64 0, .int .i64 0, .int .i64 0, .int .i64 0, .int .i64 0, .int .i64 0, .int .i64 0, .int .i64 0, .int .i64 0, .int .i64 0, .int .i64 0, .int .i64 0, .int .i64 0, .int .i64 0, .int .i64 0, .int .i64 0, .int .i64 0, .int .i64 0, .int .i64 0] rfl #[.int .i64 0, .int .i64 0, .int .i64 0, .int .i64 0, .int .i64 0, .int .i64 0, .int .i64 0, .int .i64 0, .int .i64 0, .int .i64 0, .int .i64 0, .int .i64 0, .int .i64 0, .int .i64 0, .int .i64 0, .int .i64 0, .int .i64 0, .int .i64 0, .int .i64 0, .int .i64 0, .int .i64 0, .int .i64 0, .int .i64 0, .int .i64 0, .int .i64 0, .int .i64 0, .int .i64 0, .int .i64 0, .int .i64 0, .int .i64 0, .int .i64 0, .int .i64 0, .int .i64 0, .int .i64 0, .int .i64 0, .int .i64 0, .int .i64 0, .int .i64 0, .int .i64 0, .int .i64 0, .int .i64 0, .int .i64 0, .int .i64 0, .int .i64 0, .int .i64 0, .int .i64 0, .int .i64 0, .int .i64 0, .int .i64 0, .int .i64 0, .int .i64 0, .int .i64 0, .int .i64 0, .int .i64 0, .int .i64 0, .int .i64 0, .int .i64 0, .int .i64 0, .int .i64 0, .int .i64 0, .int .i64 0, .int .i64 0, .int .i64 0, .int .i64 0] 80 (heap_alloc_new _ _) rfl (by kernel_rfl) z64_one ?_; intro w3 hB3 g3)
  rw [← sq_z64] at hB3
  refine bodyPost_ret (v := .tuple #[.agg (sq zs64), .bool false]) ?_ rfl ⟨rfl, ?_⟩
  · exact results_c2 (p := 4) (q := 5) (ty := 80) rfl _ _ _ w.heap.size rfl _ (run_loadVar_row w3 _ 80 80 _ (0, 0) _ hB3 Try.underlying80 rfl (by rw [sq_size, zs64_len]; kernel_rfl))
  · exact grown_new (World.grownBy_alloc _ _ _) g3 (fun g e => by simp at e; omega)

set_option maxRecDepth 20000 in
set_option maxHeartbeats 800000 in
/-- A list as a square, and whether f leaves each of its numbers. -/
theorem fixSquare_yes (b off cap : Nat) (zs : List Int) (w : World) (hr : Rd .i64 w (some ⟨b, off, none⟩) 64 zs) (f : Nat → Int) (g : Nat) (lb : Array Value) (eg : ∀ args w, (callFunc g args).run Try.prog w = .ok (.enter g args) w)
    (HC : Hid (∀ k, k < 64 → ∀ W, w.grownBy W none → Calls Try.prog g (#[.int .i64 (zs.getD k 0)] ++ lb) W fun e W' => e = .returned (.int .i64 (f k)) ∧ W.grownBy W' none)) :
    Calls Try.prog 76 #[.slice (some ⟨b, off, none⟩) 64 cap, .func (.func g) #[] lb] w fun e w' => e = .returned (.tuple #[.agg (sq zs), .bool (zs == made f)]) ∧ w.grownBy w' none := by
  have hz : zs.length = 64 := hr.1
  have HR := hide hr
  clear hr
  have HZ := hide hz
  clear hz
  have har : ∀ w, (Instr.arrayAt 80 (.slice (some ⟨b, off, none⟩) 64 cap)).run Try.prog w = .ok (.pointer (some ⟨b, off, none⟩)) w := fun w => by kernel_rfl
  have HSL : Hid ((sq zs).size = 64) := by unfold Hid; rw [sq_size, unhide HZ]
  have HLD : ∀ (w : World) (g : Nat), w.heap[g]? = some (.cells (sq zs) 80 (0, 0)) → (loadVar 80 ⟨g, 0, none⟩).run Try.prog w = .ok (.agg (sq zs)) w := fun w g h => run_loadVar_row w g 80 80 _ (0, 0) _ h Try.underlying80 rfl (by rw [unhide HSL]; kernel_rfl)
  have HLD' := hide HLD
  clear HLD
  obtain ⟨W0, hW0⟩ : ∃ W0, (w.alloc (.cells #[.int .i64 0, .int .i64 0, .int .i64 0, .int .i64 0, .int .i64 0, .int .i64 0, .int .i64 0, .int .i64 0, .int .i64 0, .int .i64 0, .int .i64 0, .int .i64 0, .int .i64 0, .int .i64 0, .int .i64 0, .int .i64 0, .int .i64 0, .int .i64 0, .int .i64 0, .int .i64 0, .int .i64 0, .int .i64 0, .int .i64 0, .int .i64 0, .int .i64 0, .int .i64 0, .int .i64 0, .int .i64 0, .int .i64 0, .int .i64 0, .int .i64 0, .int .i64 0, .int .i64 0, .int .i64 0, .int .i64 0, .int .i64 0, .int .i64 0, .int .i64 0, .int .i64 0, .int .i64 0, .int .i64 0, .int .i64 0, .int .i64 0, .int .i64 0, .int .i64 0, .int .i64 0, .int .i64 0, .int .i64 0, .int .i64 0, .int .i64 0, .int .i64 0, .int .i64 0, .int .i64 0, .int .i64 0, .int .i64 0, .int .i64 0, .int .i64 0, .int .i64 0, .int .i64 0, .int .i64 0, .int .i64 0, .int .i64 0, .int .i64 0, .int .i64 0] 80)).alloc (.cells #[.int .i64 0, .int .i64 0, .int .i64 0, .int .i64 0, .int .i64 0, .int .i64 0, .int .i64 0, .int .i64 0, .int .i64 0, .int .i64 0, .int .i64 0, .int .i64 0, .int .i64 0, .int .i64 0, .int .i64 0, .int .i64 0, .int .i64 0, .int .i64 0, .int .i64 0, .int .i64 0, .int .i64 0, .int .i64 0, .int .i64 0, .int .i64 0, .int .i64 0, .int .i64 0, .int .i64 0, .int .i64 0, .int .i64 0, .int .i64 0, .int .i64 0, .int .i64 0, .int .i64 0, .int .i64 0, .int .i64 0, .int .i64 0, .int .i64 0, .int .i64 0, .int .i64 0, .int .i64 0, .int .i64 0, .int .i64 0, .int .i64 0, .int .i64 0, .int .i64 0, .int .i64 0, .int .i64 0, .int .i64 0, .int .i64 0, .int .i64 0, .int .i64 0, .int .i64 0, .int .i64 0, .int .i64 0, .int .i64 0, .int .i64 0, .int .i64 0, .int .i64 0, .int .i64 0, .int .i64 0, .int .i64 0, .int .i64 0, .int .i64 0, .int .i64 0] 80) = W0 := ⟨_, rfl⟩
  have G0 : w.grownBy W0 none := by rw [← hW0]; exact grown_alloc (World.grownBy_alloc _ _ _) _
  have b0 : W0.heap[w.heap.size]? = some (.cells (sq zs64) 80 (0, 0)) := by rw [← hW0, sq_z64, Below.heap_alloc _ _ _ (by simp)]; exact heap_alloc_new w _
  have b1 : W0.heap[w.heap.size + 1]? = some (.cells (sq zs64) 80 (0, 0)) := by
    rw [← hW0, sq_z64]
    have := heap_alloc_new (w.alloc (.cells #[.int .i64 0, .int .i64 0, .int .i64 0, .int .i64 0, .int .i64 0, .int .i64 0, .int .i64 0, .int .i64 0, .int .i64 0, .int .i64 0, .int .i64 0, .int .i64 0, .int .i64 0, .int .i64 0, .int .i64 0, .int .i64 0, .int .i64 0, .int .i64 0, .int .i64 0, .int .i64 0, .int .i64 0, .int .i64 0, .int .i64 0, .int .i64 0, .int .i64 0, .int .i64 0, .int .i64 0, .int .i64 0, .int .i64 0, .int .i64 0, .int .i64 0, .int .i64 0, .int .i64 0, .int .i64 0, .int .i64 0, .int .i64 0, .int .i64 0, .int .i64 0, .int .i64 0, .int .i64 0, .int .i64 0, .int .i64 0, .int .i64 0, .int .i64 0, .int .i64 0, .int .i64 0, .int .i64 0, .int .i64 0, .int .i64 0, .int .i64 0, .int .i64 0, .int .i64 0, .int .i64 0, .int .i64 0, .int .i64 0, .int .i64 0, .int .i64 0, .int .i64 0, .int .i64 0, .int .i64 0, .int .i64 0, .int .i64 0, .int .i64 0, .int .i64 0] 80)) (.cells #[.int .i64 0, .int .i64 0, .int .i64 0, .int .i64 0, .int .i64 0, .int .i64 0, .int .i64 0, .int .i64 0, .int .i64 0, .int .i64 0, .int .i64 0, .int .i64 0, .int .i64 0, .int .i64 0, .int .i64 0, .int .i64 0, .int .i64 0, .int .i64 0, .int .i64 0, .int .i64 0, .int .i64 0, .int .i64 0, .int .i64 0, .int .i64 0, .int .i64 0, .int .i64 0, .int .i64 0, .int .i64 0, .int .i64 0, .int .i64 0, .int .i64 0, .int .i64 0, .int .i64 0, .int .i64 0, .int .i64 0, .int .i64 0, .int .i64 0, .int .i64 0, .int .i64 0, .int .i64 0, .int .i64 0, .int .i64 0, .int .i64 0, .int .i64 0, .int .i64 0, .int .i64 0, .int .i64 0, .int .i64 0, .int .i64 0, .int .i64 0, .int .i64 0, .int .i64 0, .int .i64 0, .int .i64 0, .int .i64 0, .int .i64 0, .int .i64 0, .int .i64 0, .int .i64 0, .int .i64 0, .int .i64 0, .int .i64 0, .int .i64 0, .int .i64 0] 80)
    simpa using this
  have s0 : W0.heap.size = w.heap.size + 2 := by rw [← hW0]; simp
  have HW := hide hW0
  have B0 := hide b0
  have B1 := hide b1
  have HG0 := hide G0
  clear hW0 b0 b1 G0
  go_enter Try.func76, Try.ntmps76
  go_wp2_with (first | (refine load_mid rfl 80 _ rfl b off rfl (sq zs) (sq_rd ((unhide HR).grown (World.grownBy_alloc _ _ _))) _ Try.underlying80 rfl (by rw [unhide HSL]; kernel_rfl) ?_) | (rw [unhide HW]; clear HW; refine store_row rfl 80 _ _ rfl (w.heap.size + 1) rfl (sq zs) rfl (sq zs64) 80 (unhide B1) (by rw [unhide HSL, sq_size, zs64_len]) (by rw [unhide HSL]; kernel_rfl) (sq_one zs) ?_; intro w3 hB3 g3))
  have hG3 : w.grownBy w3 none := grown_new (unhide HG0) g3 (fun g e => by simp at e; omega)
  have hR3 := (g3.block w.heap.size (by omega) (by simp)).trans (unhide B0)
  have s3 := g3.size
  have HSQ := hide (eqSq (zs := zs) (ys := made f) (unhide HZ) (made_len f))
  refine wp_region_noPanic ?_
  refine wp_region_raw (fun w' => w'.heap[w.heap.size + 1]? = some (.cells (sq zs) 80 (0, 0))) [true, true, true, true, false, false, false, false] (by kernel_rfl) (fun _ _ _ _ _ h => h) rfl (by kernel_rfl) hB3 ?_
  iterate 3
    refine heldF_take (v := .agg (sq zs)) (Or.inl ⟨by rfl, ?_⟩) ?_
    · intro w' hSw
      exact exec_row 80 _ rfl (w.heap.size + 1) rfl (sq zs) 80 hSw _ Try.underlying80 rfl (by rw [unhide HSL]; kernel_rfl)
    simp only [Act.put, List.setIfInBounds_toArray, List.set_cons_zero, List.set_cons_succ]
  refine heldF_take (v := ?_) (Or.inl ⟨by rfl, ?_⟩) ?_
  rotate_left 1
  · intro w' hSw
    go_simp
    try with_reducible rfl
  simp only [Act.put, List.setIfInBounds_toArray, List.set_cons_zero, List.set_cons_succ]
  refine heldF_skip (heldF_skip (heldF_skip (heldF_skip (heldF_nil ?_))))
  refine anyH_step1 (i := 4) rfl (by kernel_rfl) (fun K hK => ?_)
  go_simp
  refine (each zs (unhide HZ) f g lb eg _ (fun k hk W hW => unhide HC k hk W (grown_trans (grown_drew hG3) hW))).mono ?_
  rintro e w4 ⟨rfl, g4⟩
  have hB4 := (g4.block (w.heap.size + 1) (by show w.heap.size + 1 < w3.heap.size; omega) (by simp)).trans hB3
  have hR4 := (g4.block w.heap.size (by show w.heap.size < w3.heap.size; omega) (by simp)).trans hR3
  have hG4 : w.grownBy w4 none := grown_trans (grown_drew hG3) g4
  refine hK.out _ _ hB4 ?_
  clear hK K
  try simp only [Act.put, List.setIfInBounds_toArray, List.set_cons_zero, List.set_cons_succ]
  refine anyH_step2 (i := 5) (j := 6) rfl rfl (by kernel_rfl) (fun K hK => ?_) (fun K hK => ?_)
  · have hsq := unhide HSQ
    go_simp
    refine hK.out _ _ hB4 ?_
    clear hK K hsq
    try simp only [Act.put, List.setIfInBounds_toArray, List.set_cons_zero, List.set_cons_succ]
    refine anyH_step1 (i := 6) rfl (by kernel_rfl) (fun K hK => ?_)
    refine step_store_row (by rfl) 80 _ _ rfl w.heap.size rfl (sq zs) rfl (sq zs64) 80 hR4 (by rw [unhide HSL, sq_size, zs64_len]) (by rw [unhide HSL]; kernel_rfl) (sq_one zs) ?_
    intro w5 hB5 g5
    have hB5' := (g5.block (w.heap.size + 1) (Array.getElem?_eq_some_iff.1 hB4).1 (by simp)).trans hB4
    refine hK.out _ _ hB5' ?_
    clear hK K
    try simp only [Act.put]
    refine anyH_step1 (i := 7) rfl (by kernel_rfl) (fun K hK => ?_)
    go_simp
    refine hK.out _ _ hB5' ?_
    clear hK K
    try simp only [Act.put, List.setIfInBounds_toArray, List.set_cons_zero, List.set_cons_succ]
    refine wpAnyH_done (by kernel_rfl) (NoPanic.normal ?_) _
    go_wp2
    refine bodyPost_ret (v := .tuple #[.agg (sq zs), .bool (zs == made f)]) ?_ rfl ⟨rfl, ?_⟩
    · exact results_c2 (p := 4) (q := 5) (ty := 80) rfl _ _ _ w.heap.size rfl _ (unhide HLD' _ _ hB5)
    · exact grown_new hG4 g5 (fun g e => by simp at e; omega)
  · refine step_store_row (by rfl) 80 _ _ rfl w.heap.size rfl (sq zs) rfl (sq zs64) 80 hR4 (by rw [unhide HSL, sq_size, zs64_len]) (by rw [unhide HSL]; kernel_rfl) (sq_one zs) ?_
    intro w5 hB5 g5
    have hB5' := (g5.block (w.heap.size + 1) (Array.getElem?_eq_some_iff.1 hB4).1 (by simp)).trans hB4
    refine hK.out _ _ hB5' ?_
    clear hK K
    try simp only [Act.put]
    refine anyH_step1 (i := 5) rfl (by kernel_rfl) (fun K hK => ?_)
    have hsq := unhide HSQ
    go_simp
    refine hK.out _ _ hB5' ?_
    clear hK K hsq
    try simp only [Act.put, List.setIfInBounds_toArray, List.set_cons_zero, List.set_cons_succ]
    refine anyH_step1 (i := 7) rfl (by kernel_rfl) (fun K hK => ?_)
    go_simp
    refine hK.out _ _ hB5' ?_
    clear hK K
    try simp only [Act.put, List.setIfInBounds_toArray, List.set_cons_zero, List.set_cons_succ]
    refine wpAnyH_done (by kernel_rfl) (NoPanic.normal ?_) _
    go_wp2
    refine bodyPost_ret (v := .tuple #[.agg (sq zs), .bool (zs == made f)]) ?_ rfl ⟨rfl, ?_⟩
    · exact results_c2 (p := 4) (q := 5) (ty := 80) rfl _ _ _ w.heap.size rfl _ (unhide HLD' _ _ hB5)
    · exact grown_new hG4 g5 (fun g e => by simp at e; omega)

/-- A block that is ok, a table that is ok. -/
def numsB (lo hi : Int) (zs : List Int) : Bool := decide (zs.length = 64) && zs.all (fun n => decide (lo ≤ n ∧ n ≤ hi))
theorem clip_same {lo hi : Int} (h : lo ≤ hi) (zs : List Int) (hz : zs.length = 64) : (zs == made (fun k => min (max (zs.getD k 0) lo) hi)) = numsB lo hi zs := by
  rw [Bool.eq_iff_iff]
  simp only [numsB, hz, decide_true, Bool.true_and, beq_iff_eq, List.all_eq_true, decide_eq_true_eq]
  constructor
  · intro e n hn
    obtain ⟨i, hi', rfl⟩ := List.getElem_of_mem hn
    have h1 : zs.getD i 0 = (made (fun k => min (max (zs.getD k 0) lo) hi)).getD i 0 := by rw [← e]
    rw [made_at _ i (by omega)] at h1
    have h2 : zs.getD i 0 = zs[i] := by simp [hi']
    rw [h2] at h1
    omega
  · intro hall
    apply List.ext_getElem?
    intro i
    by_cases hi' : i < zs.length
    · have h1 := hall zs[i] (List.getElem_mem hi')
      rw [List.getElem?_eq_getElem hi', List.getElem?_eq_getElem (by rw [made_len]; omega)]
      simp only [made, List.getElem_map, List.getElem_range, Option.some.injEq]
      have h2 : zs.getD i 0 = zs[i] := by simp [hi']
      rw [h2]
      omega
    · rw [List.getElem?_eq_none (by omega), List.getElem?_eq_none (by rw [made_len]; omega)]

end Go.Proofs.Ytibgldanmhckiaa

namespace Go.Proofs.Ytibgldanmhckiaa
open Go.RowKit

theorem rowsK_append (n m k : Nat) (hk : 0 < k) (U V : Nat → Nat → Value) : rowsK n k U ++ rowsK m k V = rowsK (n + m) k (fun i j => if i < n then U i j else V (i - n) j) := by
  apply List.ext_getElem?
  intro c
  by_cases h1 : c < n * k
  · rw [List.getElem?_append_left (by rw [rowsK_len]; exact h1)]
    have hi' : c / k < n := Nat.div_lt_of_lt_mul (by rw [Nat.mul_comm]; exact h1)
    have hm : c % k < k := Nat.mod_lt _ hk
    have hd : c = (c / k) * k + c % k := by have := Nat.div_add_mod c k; rw [Nat.mul_comm] at this; omega
    rw [hd, rowsK_get n k U _ _ hi' hm, rowsK_get (n + m) k _ _ _ (by omega) hm, if_pos hi']
  · obtain ⟨d, rfl⟩ : ∃ d, c = n * k + d := ⟨c - n * k, by omega⟩
    rw [List.getElem?_append_right (by rw [rowsK_len]; omega), rowsK_len, Nat.add_sub_cancel_left]
    have hd : d = (d / k) * k + d % k := by have := Nat.div_add_mod d k; rw [Nat.mul_comm] at this; omega
    have hm : d % k < k := Nat.mod_lt _ hk
    have hc : n * k + d = (n + d / k) * k + d % k := by rw [Nat.add_mul]; omega
    by_cases h2 : d < m * k
    · have hi' : d / k < m := Nat.div_lt_of_lt_mul (by rw [Nat.mul_comm]; exact h2)
      rw [hc, rowsK_get (n + m) k _ _ _ (Nat.add_lt_add_left hi' n) hm, if_neg (Nat.not_lt.2 (Nat.le_add_right _ _)), Nat.add_sub_cancel_left]
      have e9 := rowsK_get m k V (d / k) (d % k) hi' hm
      rw [← hd] at e9
      exact e9
    · rw [List.getElem?_eq_none (by rw [rowsK_len]; omega), List.getElem?_eq_none (by rw [rowsK_len, Nat.add_mul]; omega)]

theorem append_rowsG {α : Type} {P : World → (Nat → Value) → α → List Nat → Prop} (hP : OkG P) {e T : TypeId} {sz bytes : Nat} {z : Value} (hT : Try.prog.underlying T = some (.slice e)) (hI : (Try.prog.info? e).map (fun i => (i.zero, i.size, i.bytes)) = some (some z, sz, bytes)) (hzs : z.cells.size = sz) (hsz : 0 < sz) (hbt : bytes ≤ 1000)
    {w : World} {ops : Array Oper} {rest : List Oper} {o : Oper} {a : Act} {Q : Exit → Act → World → Prop} (hgd : o.guard = none) (s x : Operand)
    (ho : o.op = .call { callee := .builtin .append, args := #[s, x], argTypes := #[T, T] })
    (v : Value) (L : List α) (F : List Nat) (hs : a.eval s = v) (hown : OwG e sz P w v L F) (hF : F.Nodup)
    (cs : Array Value) (m : Nat) (V : Nat → Nat → Value) (hcs : cs.toList = rowsK m sz V) (M : List α) (hM : M.length = m) (Gs : List (List Nat)) (hGs : Gs.length = m) (hu : ∀ i (h : i < M.length), P w (V i) M[i] (Gs.getD i [])) (hG : Gs.flatten.Nodup) (hd : ∀ x ∈ Gs.flatten, x ∉ F) (h1c : ∀ u ∈ cs.toList, u.oneCell' = true)
    (H : Nat) (hH : w.heap.size = H) (hx : a.eval x = .slice (some ⟨H, 0, none⟩) m m) (hb : L.length + m ≤ 1000000) (R : List α) (hR : L ++ M = R)
    (h : ∀ v' w' F', OwG e sz P w' v' R F' → F'.Nodup → (∀ x ∈ F', x ∈ F ∨ x ∈ Gs.flatten ∨ w.heap.size ≤ x) → Wr (blk v) w w' → wpList Try.prog ops Q rest (a.put o.dst v') w') :
    wpList Try.prog ops Q (o :: rest) a (w.alloc (.cells cs e)) := by
  subst hR
  subst hH
  obtain ⟨i0, hi, hz0, hz1, hz2⟩ := info_parts hI
  obtain ⟨U, Fs, l2, o1, els, rfl⟩ := hown
  have hn := List.nodup_append.1 hF
  have hbb : (L.length + m) * bytes ≤ 1000000 * 1000 := Nat.mul_le_mul hb hbt
  refine wpList_append_own_at _ hgd s x T ho 0 e i0 _ sz bytes hT hi hz0 hz1 hz2 hzs hsz v L.length _ hs (o1.alloc _) ⟨w.heap.size, 0, none⟩ m m cs.toList hx (by rw [hcs, rowsK_len]) (World.news_of_block (cs := cs) (t := e) (fr := (0, 0)) (heap_alloc_new w _)) h1c (by unfold maxLen; omega) (by omega) (Nat.zero_le _) ?_
  intro v' w' h1 h2 _ h4
  have hga : w.grownBy w' v.ownBlock := ⟨h2.os, h2.tape, h2.output, by have h := h2.size; simp at h; omega, fun k hk hr => (h2.block k (by simp; omega) hr).trans (Below.heap_alloc _ _ _ hk)⟩
  have hw : Wr (blk v) w w' := Wr.ofRow hga (fun g e => mem_blk.2 e)
  have hvb : ∀ y, y ∈ blk v' → y ∈ blk v ∨ w.heap.size ≤ y := fun y hy => by
    rcases h4 with h4 | h4
    · exact .inl (mem_blk.2 (by rw [← h4]; exact mem_blk.1 hy))
    · have e1 := mem_blk.1 hy
      rw [h4] at e1
      have e2 : (w.alloc (.cells cs e)).heap.size = y := Option.some.inj e1
      exact .inr (by simp at e2; omega)
  have hfl : (Fs ++ Gs).flatten = Fs.flatten ++ Gs.flatten := by simp
  have hlt : ∀ y ∈ Fs.flatten, y < w.heap.size := fun y hy => by
    obtain ⟨l, hl, hyl⟩ := List.mem_flatten.1 hy
    obtain ⟨i, hi, rfl⟩ := List.mem_iff_getElem.1 hl
    exact hP.lt w _ _ _ (els i (by omega)) y (by simpa [hi] using hyl)
  have hltG : ∀ y ∈ Gs.flatten, y < w.heap.size := fun y hy => by
    obtain ⟨l, hl, hyl⟩ := List.mem_flatten.1 hy
    obtain ⟨i, hi, rfl⟩ := List.mem_iff_getElem.1 hl
    exact hP.lt w _ _ _ (hu i (by omega)) y (by simpa [hi] using hyl)
  refine h v' w' (blk v' ++ (Fs ++ Gs).flatten) ⟨fun i j => if i < L.length then U i j else V (i - L.length) j, Fs ++ Gs, by simp [l2, hGs, hM], ?_, fun i hi => ?_, rfl⟩ ?_ ?_ hw
  · rw [List.length_append, hM, ← rowsK_append L.length m sz hsz, ← hcs]; exact h1
  · by_cases hil : i < L.length
    · have e1 : (fun j => if i < L.length then U i j else V (i - L.length) j) = U i := by funext j; rw [if_pos hil]
      have e2 : (Fs ++ Gs).getD i [] = Fs.getD i [] := by simp [List.getElem?_append_left (show i < Fs.length by omega)]
      dsimp only
      rw [e1, e2, List.getElem_append_left hil]
      exact hP.wr (els i hil) hw (fun y hy hy2 => hn.2.2 y hy2 y (flat_in (by omega) y hy) rfl)
    · have him : i - L.length < M.length := by rw [List.length_append] at hi; omega
      have e1 : (fun j => if i < L.length then U i j else V (i - L.length) j) = V (i - L.length) := by funext j; rw [if_neg hil]
      have e2 : (Fs ++ Gs).getD i [] = Gs.getD (i - L.length) [] := by simp [List.getElem?_append_right (show Fs.length ≤ i by omega), l2]
      dsimp only
      rw [e1, e2, List.getElem_append_right (by omega)]
      exact hP.wr (hu (i - L.length) him) hw (fun y hy hy2 => hd y (flat_in (by omega) y hy) (by simp [hy2]))
  · rw [hfl]
    refine List.nodup_append.2 ⟨blk_nodup v', List.nodup_append.2 ⟨hn.2.1, hG, fun y hy z hz => ?_⟩, fun y hy z hz => ?_⟩
    · rintro rfl
      exact hd y hz (by simp [hy])
    · rintro rfl
      rcases List.mem_append.1 hz with hz | hz
      · rcases hvb y hy with h5 | h5
        · exact hn.2.2 y h5 y hz rfl
        · have := hlt y hz; omega
      · rcases hvb y hy with h5 | h5
        · exact hd y hz (by simp [h5])
        · have := hltG y hz; omega
  · intro y hy
    rw [hfl] at hy
    rcases List.mem_append.1 hy with hy | hy
    · rcases hvb y hy with h5 | h5
      · exact .inl (by simp [h5])
      · exact .inr (.inr h5)
    · rcases List.mem_append.1 hy with hy | hy
      · exact .inl (by simp [hy])
      · exact .inr (.inl hy)

end Go.Proofs.Ytibgldanmhckiaa

namespace Go.Proofs.Ytibgldanmhckiaa
open Go.RowKit Go.Shelf

theorem nearestLevel (n : Int) (w : World) :
    Calls Try.prog 77 #[.int .i64 n] w fun e w' => e = .returned (.int .i64 (min (max n (-16383)) 16383)) ∧ w = w' := by
  go_enter Try.func77, Try.ntmps77
  go_wp2
  all_goals
    go_ret
    refine ⟨ret_int ?_, rfl⟩
    first | omega | (split at * <;> omega)

set_option maxRecDepth 20000 in
set_option maxHeartbeats 400000 in
theorem fixLevels (ao : Option Addr) (n cap : Nat) (zs : List Int) (w : World) (hr : Rd .i64 w ao n zs) (b : Bool) (hb : Hid (levB (-16383) 16383 zs = b)) :
    Calls Try.prog 41 #[.slice ao n cap] w fun e w' => (∃ ys, e = .returned (.tuple #[.agg (sq ys), .bool b]) ∧ ys.length = 64 ∧ (n = 64 → ys = zs)) ∧ w.grownBy w' none := by
  by_cases h : n = 64
  · subst h
    obtain ⟨bb, off, rfl, _⟩ := hr.2 0 (by omega)
    have e : (zs == made (fun k => min (max (zs.getD k 0) (-16383)) 16383)) = b := by rw [clip_same (by omega) zs hr.1]; exact unhide hb
    have HZ := hide hr.1
    have HR := hide (hr.grown (World.grownBy_alloc w (.cells #[.int .i64 0, .int .i64 0, .int .i64 0, .int .i64 0, .int .i64 0, .int .i64 0, .int .i64 0, .int .i64 0, .int .i64 0, .int .i64 0, .int .i64 0, .int .i64 0, .int .i64 0, .int .i64 0, .int .i64 0, .int .i64 0, .int .i64 0, .int .i64 0, .int .i64 0, .int .i64 0, .int .i64 0, .int .i64 0, .int .i64 0, .int .i64 0, .int .i64 0, .int .i64 0, .int .i64 0, .int .i64 0, .int .i64 0, .int .i64 0, .int .i64 0, .int .i64 0, .int .i64 0, .int .i64 0, .int .i64 0, .int .i64 0, .int .i64 0, .int .i64 0, .int .i64 0, .int .i64 0, .int .i64 0, .int .i64 0, .int .i64 0, .int .i64 0, .int .i64 0, .int .i64 0, .int .i64 0, .int .i64 0, .int .i64 0, .int .i64 0, .int .i64 0, .int .i64 0, .int .i64 0, .int .i64 0, .int .i64 0, .int .i64 0, .int .i64 0, .int .i64 0, .int .i64 0, .int .i64 0, .int .i64 0, .int .i64 0, .int .i64 0, .int .i64 0] 80) none))
    clear hr
    go_enter Try.func41, Try.ntmps41
    go_wp2_with fail
    refine (fixSquare_yes bb off cap zs _ (unhide HR) (fun k => min (max (zs.getD k 0) (-16383)) 16383) 77 #[] (enters_of Try.func77 (by kernel_rfl) rfl) (fun k hk W hW => (nearestLevel (zs.getD k 0) W).mono ?_)).mono ?_
    · rintro e w' ⟨rfl, rfl⟩
      exact ⟨rfl, World.grownBy.refl _ _⟩
    · rintro e' w' ⟨rfl, g⟩
      rw [e]
      clear HR hb e
      have hB := (g.block w.heap.size (by simp) (by simp)).trans (heap_alloc_new w _)
      have HB := hide hB
      clear hB
      go_wp2_with (refine store_row rfl 80 _ _ rfl w.heap.size rfl (sq zs) rfl #[.int .i64 0, .int .i64 0, .int .i64 0, .int .i64 0, .int .i64 0, .int .i64 0, .int .i64 0, .int .i64 0, .int .i64 0, .int .i64 0, .int .i64 0, .int .i64 0, .int .i64 0, .int .i64 0, .int .i64 0, .int .i64 0, .int .i64 0, .int .i64 0, .int .i64 0, .int .i64 0, .int .i64 0, .int .i64 0, .int .i64 0, .int .i64 0, .int .i64 0, .int .i64 0, .int .i64 0, .int .i64 0, .int .i64 0, .int .i64 0, .int .i64 0, .int .i64 0, .int .i64 0, .int .i64 0, .int .i64 0, .int .i64 0, .int .i64 0, .int .i64 0, .int .i64 0, .int .i64 0, .int .i64 0, .int .i64 0, .int .i64 0, .int .i64 0, .int .i64 0, .int .i64 0, .int .i64 0, .int .i64 0, .int .i64 0, .int .i64 0, .int .i64 0, .int .i64 0, .int .i64 0, .int .i64 0, .int .i64 0, .int .i64 0, .int .i64 0, .int .i64 0, .int .i64 0, .int .i64 0, .int .i64 0, .int .i64 0, .int .i64 0, .int .i64 0] 80 (unhide HB) (by rw [sq_size, unhide HZ]; rfl) (by rw [sq_size, unhide HZ]; kernel_rfl) (sq_one _) ?_; intro w3 hB3 g3)
      refine bodyPost_ret (v := .tuple #[.agg (sq zs), .bool b]) ?_ rfl ⟨⟨_, rfl, (by first | exact unhide HZ | exact zs64_len), ?_⟩, ?_⟩
      · exact results_c2 (p := 2) (q := 3) (ty := 80) rfl _ _ _ w.heap.size rfl _ (run_loadVar_row w3 _ 80 80 _ (0, 0) _ hB3 Try.underlying80 rfl (by rw [sq_size, unhide HZ]; kernel_rfl))
      · intro hh; first | rfl | exact absurd hh h
      · exact grown_new (grown_new (World.grownBy_alloc _ _ _) g (fun g e => by simp at e)) g3 (fun g e => by simp at e; omega)
  · have hb' : b = false := by rw [← unhide hb]; simp [levB, hr.1, h]
    subst hb'
    clear hr hb
    go_enter Try.func41, Try.ntmps41
    go_wp2_with fail
    refine (fixSquare_no ao n cap _ _ h).mono ?_
    rintro e' w' ⟨rfl, g⟩
    have hB := (g.block w.heap.size (by simp) (by simp)).trans (heap_alloc_new w _)
    have HB := hide hB
    clear hB
    go_wp2_with (refine store_row rfl 80 _ _ rfl w.heap.size rfl (sq zs64) rfl #[.int .i64 0, .int .i64 0, .int .i64 0, .int .i64 0, .int .i64 0, .int .i64 0, .int .i64 0, .int .i64 0, .int .i64 0, .int .i64 0, .int .i64 0, .int .i64 0, .int .i64 0, .int .i64 0, .int .i64 0, .int .i64 0, .int .i64 0, .int .i64 0, .int .i64 0, .int .i64 0, .int .i64 0, .int .i64 0, .int .i64 0, .int .i64 0, .int .i64 0, .int .i64 0, .int .i64 0, .int .i64 0, .int .i64 0, .int .i64 0, .int .i64 0, .int .i64 0, .int .i64 0, .int .i64 0, .int .i64 0, .int .i64 0, .int .i64 0, .int .i64 0, .int .i64 0, .int .i64 0, .int .i64 0, .int .i64 0, .int .i64 0, .int .i64 0, .int .i64 0, .int .i64 0, .int .i64 0, .int .i64 0, .int .i64 0, .int .i64 0, .int .i64 0, .int .i64 0, .int .i64 0, .int .i64 0, .int .i64 0, .int .i64 0, .int .i64 0, .int .i64 0, .int .i64 0, .int .i64 0, .int .i64 0, .int .i64 0, .int .i64 0, .int .i64 0] 80 (unhide HB) (by rw [sq_size, zs64_len]; rfl) (by rw [sq_size, zs64_len]; kernel_rfl) (sq_one _) ?_; intro w3 hB3 g3)
    refine bodyPost_ret (v := .tuple #[.agg (sq zs64), .bool false]) ?_ rfl ⟨⟨_, rfl, (by first | exact unhide HZ | exact zs64_len), ?_⟩, ?_⟩
    · exact results_c2 (p := 2) (q := 3) (ty := 80) rfl _ _ _ w.heap.size rfl _ (run_loadVar_row w3 _ 80 80 _ (0, 0) _ hB3 Try.underlying80 rfl (by rw [sq_size, zs64_len]; kernel_rfl))
    · intro hh; first | rfl | exact absurd hh h
    · exact grown_new (grown_new (World.grownBy_alloc _ _ _) g (fun g e => by simp at e)) g3 (fun g e => by simp at e; omega)

theorem grown_cells (g : Nat) : ∀ (vs : List Value) (o : Nat) (w : World), w.grownBy (w.setCells g o vs) (some g)
  | [], _, _ => World.grownBy.refl _ _
  | v :: r, o, w => by
    rw [World.setCells]
    exact grown_trans (grown_set w g o v) (grown_cells g r (o + 1) _)

/-- Blocks in a row of squares. -/
structure Th (w : World) (g : Nat) (L : List (List Int)) : Prop where
  len : ∀ k, k < L.length → (L.getD k []).length = 64
  rd : ∀ k, k < L.length → w.rangeAt g (k * 64) ((L.getD k []).map (Value.int .i64))
  th : ∀ k, k < L.length → w.there g (k * 64) 64
  lies : ∃ o, w.heap[g]? = some o
theorem Th.lt {w : World} {g : Nat} {L : List (List Int)} (h : Th w g L) : g < w.heap.size := by
  obtain ⟨o, ho⟩ := h.lies
  exact (Array.getElem?_eq_some_iff.1 ho).1
theorem Th.same {w w' : World} {g : Nat} {L : List (List Int)} (h : Th w g L) (e : w'.heap[g]? = w.heap[g]?) : Th w' g L := by
  refine ⟨h.len, fun k hk j v hv => ?_, fun k hk j hj => ?_, by rw [e]; exact h.lies⟩
  · have := h.rd k hk j v hv
    unfold World.cell? at this ⊢
    rw [e]
    exact this
  · have := h.th k hk j hj
    unfold World.cell? World.frozen? at this ⊢
    rw [e]
    exact this
theorem Th.grown {w w' : World} {g : Nat} {L : List (List Int)} (h : Th w g L) (hg : w.grownBy w' none) : Th w' g L := h.same (hg.block g h.lt (by simp))
theorem Th.put {w : World} {g : Nat} {L : List (List Int)} (h : Th w g L) (k : Nat) (hk : k < L.length) (B : List Int) (hB : B.length = 64) : Th (w.setCells g (k * 64) (B.map (Value.int .i64))) g (L.set k B) := by
  have hl : ∀ j, j < (L.set k B).length → ((L.set k B).getD j []).length = 64 := fun j hj => by
    rw [List.length_set] at hj
    by_cases e : k = j
    · subst e; simp [hk, hB]
    · have : (L.set k B).getD j [] = L.getD j [] := by simp [e]
      rw [this]; exact h.len j hj
  refine ⟨hl, fun j hj => ?_, fun j hj => ?_, ?_⟩
  · rw [List.length_set] at hj
    by_cases e : k = j
    · subst e
      have : (L.set k B).getD k [] = B := by simp [hk]
      rw [this]
      exact World.rangeAt_setCells_same w g (k * 64) _ (by rw [List.length_map, hB]; exact h.th k hk)
    · have : (L.set k B).getD j [] = L.getD j [] := by simp [e]
      rw [this]
      refine World.rangeAt_setCells_apart (h.rd j hj) g (k * 64) _ (.inr ?_)
      rw [List.length_map, List.length_map, h.len j hj, hB]
      omega
  · rw [List.length_set] at hj
    exact World.there_setCells (h.th j hj) g _ _
  · have hs : g < (w.setCells g (k * 64) (B.map (Value.int .i64))).heap.size := Nat.lt_of_lt_of_le h.lt (grown_cells g _ _ w).size
    exact ⟨_, Array.getElem?_eq_getElem hs⟩
/-- New blocks. -/
theorem Th.made {w : World} {g cap n base : Nat} {xs : List Value} (h : w.ownsRow base 80 64 (.slice (some ⟨g, 0, none⟩) n cap) n xs) (hx : ∀ j, j < n * 64 → xs[j]? = some (.int .i64 0)) : Th w g (List.replicate n noughts) := by
  have hc : ∀ j, j < n * 64 → w.cell? ⟨g, j, none⟩ = some (.int .i64 0) := fun j hj => by rw [h.cellAt j hj]; exact hx j hj
  have hr : ∀ k, k < (List.replicate n noughts).length → (List.replicate n noughts).getD k [] = noughts := fun k hk => by
    rw [List.length_replicate] at hk
    simp [hk]
  refine ⟨fun k hk => by rw [hr k hk]; simp [noughts], fun k hk j v hv => ?_, fun k hk j hj => ?_, ?_⟩
  · rw [hr k hk] at hv
    rw [List.length_replicate] at hk
    have hj : j < 64 := by
      have := (List.getElem?_eq_some_iff.1 hv).1
      simpa [noughts] using this
    obtain ⟨y, hy, rfl⟩ := List.mem_map.1 (List.mem_of_getElem? hv)
    have e : y = 0 := List.eq_of_mem_replicate hy
    subst e
    exact hc _ (by omega)
  · rw [List.length_replicate] at hk
    rw [hc _ (by omega)]
    exact ⟨rfl, h.frozenAt _⟩
  · have := (h.lt g rfl).2
    exact ⟨_, Array.getElem?_eq_getElem this⟩

/-- A grid: its sides, its blocks, and the block of memory that they lie in. -/
abbrev Gd := Nat × Nat × List (List Int)
def GrP (w : World) (c : Nat → Value) (x : Gd) (F : List Nat) : Prop := ∃ g cap, c 0 = .int .i64 (x.1 : Int) ∧ c 1 = .int .i64 (x.2.1 : Int) ∧ c 2 = .slice (some ⟨g, 0, none⟩) x.2.2.length cap ∧ Th w g x.2.2 ∧ F = [g]
theorem GrP.ok : OkG GrP := by
  refine ⟨?_, ?_⟩
  · rintro w w' c x F ⟨g, cap, h0, h1, h2, ht, rfl⟩ hs
    exact ⟨g, cap, h0, h1, h2, ht.same (hs g (by simp)), rfl⟩
  · rintro w c x F ⟨g, cap, h0, h1, h2, ht, rfl⟩ k hk
    simp at hk
    subst hk
    exact ht.lt

end Go.Proofs.Ytibgldanmhckiaa

namespace Go.Proofs.Ytibgldanmhckiaa
open Go.RowKit Go.Shelf

theorem gridIndex (wd r c : Nat) (x y : Value) (hw : wd ≤ 4096) (hr : r ≤ 4096) (hc : c ≤ 4096) (k : Nat) (hk : Hid (r * wd + c = k)) (w : World) :
    Calls Try.prog 102 #[.agg #[.int .i64 (wd : Int), x, y], .int .i64 (r : Int), .int .i64 (c : Int)] w fun e w' => e = .returned (.int .i64 (k : Int)) ∧ w.grownBy w' none := by
  have h0 : r * wd ≤ 4096 * 4096 := Nat.mul_le_mul hr hw
  have h1 := i64_in ((r : Int) * (wd : Int)) (by rw [← Int.natCast_mul]; omega)
  have h2 := i64_in ((r : Int) * (wd : Int) + (c : Int)) (by rw [← Int.natCast_mul]; omega)
  have h3 : (r : Int) * (wd : Int) + (c : Int) = (k : Int) := by rw [← Int.natCast_mul, ← Int.natCast_add, unhide hk]
  go_enter Try.func102, Try.ntmps102
  go_wp2
  go_ret
  exact ⟨rfl, grown_alloc (World.grownBy.refl _ _) _⟩

set_option maxRecDepth 20000 in
set_option maxHeartbeats 1600000 in
theorem gridAt (wd ht g cap r c : Nat) (L : List (List Int)) (hw : wd ≤ 4096) (hr : r ≤ 4096) (hc : c ≤ 4096) (k : Nat) (hk : Hid (r * wd + c = k)) (hkl : k < L.length) (w : World) (hT : Th w g L) :
    Calls Try.prog 87 #[.agg #[.int .i64 (wd : Int), .int .i64 (ht : Int), .slice (some ⟨g, 0, none⟩) L.length cap], .int .i64 (r : Int), .int .i64 (c : Int)] w fun e w' => e = .returned (.agg (sq (L.getD k []))) ∧ w.grownBy w' none := by
  have hlen := hT.len k hkl
  have HSL : Hid ((sq (L.getD k [])).size = 64) := by unfold Hid; rw [sq_size, hlen]
  obtain ⟨W0, hW0⟩ : ∃ W0, (w.alloc (.cells #[.int .i64 (wd : Int), .int .i64 (ht : Int), .slice (some ⟨g, 0, none⟩) L.length cap] 120)).alloc (.cells #[.int .i64 0, .int .i64 0, .int .i64 0, .int .i64 0, .int .i64 0, .int .i64 0, .int .i64 0, .int .i64 0, .int .i64 0, .int .i64 0, .int .i64 0, .int .i64 0, .int .i64 0, .int .i64 0, .int .i64 0, .int .i64 0, .int .i64 0, .int .i64 0, .int .i64 0, .int .i64 0, .int .i64 0, .int .i64 0, .int .i64 0, .int .i64 0, .int .i64 0, .int .i64 0, .int .i64 0, .int .i64 0, .int .i64 0, .int .i64 0, .int .i64 0, .int .i64 0, .int .i64 0, .int .i64 0, .int .i64 0, .int .i64 0, .int .i64 0, .int .i64 0, .int .i64 0, .int .i64 0, .int .i64 0, .int .i64 0, .int .i64 0, .int .i64 0, .int .i64 0, .int .i64 0, .int .i64 0, .int .i64 0, .int .i64 0, .int .i64 0, .int .i64 0, .int .i64 0, .int .i64 0, .int .i64 0, .int .i64 0, .int .i64 0, .int .i64 0, .int .i64 0, .int .i64 0, .int .i64 0, .int .i64 0, .int .i64 0, .int .i64 0, .int .i64 0] 80) = W0 := ⟨_, rfl⟩
  have G0 : w.grownBy W0 none := by rw [← hW0]; exact grown_alloc (World.grownBy_alloc _ _ _) _
  have b0 : W0.heap[w.heap.size]? = some (.cells #[.int .i64 (wd : Int), .int .i64 (ht : Int), .slice (some ⟨g, 0, none⟩) L.length cap] 120 (0, 0)) := by rw [← hW0, Below.heap_alloc _ _ _ (by simp)]; exact heap_alloc_new w _
  have b1 : W0.heap[w.heap.size + 1]? = some (.cells (sq zs64) 80 (0, 0)) := by
    rw [← hW0, sq_z64]
    have := heap_alloc_new (w.alloc (.cells #[.int .i64 (wd : Int), .int .i64 (ht : Int), .slice (some ⟨g, 0, none⟩) L.length cap] 120)) (.cells #[.int .i64 0, .int .i64 0, .int .i64 0, .int .i64 0, .int .i64 0, .int .i64 0, .int .i64 0, .int .i64 0, .int .i64 0, .int .i64 0, .int .i64 0, .int .i64 0, .int .i64 0, .int .i64 0, .int .i64 0, .int .i64 0, .int .i64 0, .int .i64 0, .int .i64 0, .int .i64 0, .int .i64 0, .int .i64 0, .int .i64 0, .int .i64 0, .int .i64 0, .int .i64 0, .int .i64 0, .int .i64 0, .int .i64 0, .int .i64 0, .int .i64 0, .int .i64 0, .int .i64 0, .int .i64 0, .int .i64 0, .int .i64 0, .int .i64 0, .int .i64 0, .int .i64 0, .int .i64 0, .int .i64 0, .int .i64 0, .int .i64 0, .int .i64 0, .int .i64 0, .int .i64 0, .int .i64 0, .int .i64 0, .int .i64 0, .int .i64 0, .int .i64 0, .int .i64 0, .int .i64 0, .int .i64 0, .int .i64 0, .int .i64 0, .int .i64 0, .int .i64 0, .int .i64 0, .int .i64 0, .int .i64 0, .int .i64 0, .int .i64 0, .int .i64 0] 80)
    simpa using this
  have s0 : W0.heap.size = w.heap.size + 2 := by rw [← hW0]; simp
  have HT0 := hide (hT.grown G0)
  have HW := hide hW0
  have B0 := hide b0
  have B1 := hide b1
  have HG0 := hide G0
  clear hW0 b0 b1 G0 hT
  go_enter Try.func87, Try.ntmps87
  go_wp2
  rw [unhide HW]
  clear HW
  refine wp_region_noPanic ?_
  refine wp_region_tailL 20 (fun W => W0.drew.grownBy W none) [true, true, true, true, true, false, false, false, false] (by kernel_rfl) (fun _ _ _ _ _ h => h) rfl (by decide) (by kernel_rfl) (World.grownBy.refl _ _) ?_
  have bD : W0.drew.heap[w.heap.size]? = some (.cells #[.int .i64 (wd : Int), .int .i64 (ht : Int), .slice (some ⟨g, 0, none⟩) L.length cap] 120 (0, 0)) := unhide B0
  have bE : W0.drew.heap[w.heap.size + 1]? = some (.cells (sq zs64) 80 (0, 0)) := unhide B1
  have tD : Th W0.drew g L := (unhide HT0).same rfl
  have gD : w.grownBy W0.drew none := grown_drew (unhide HG0)
  have sD : W0.drew.heap.size = w.heap.size + 2 := s0
  generalize W0.drew = W1 at *
  clear B0 B1 HT0 HG0 s0 W0
  have BD := hide bD
  have c2 : W1.cell? ⟨w.heap.size, 2, none⟩ = some (.slice (some ⟨g, 0, none⟩) L.length cap) := by rw [cell_of_row W1 _ 2 _ _ (0, 0) bD]; rfl
  have C2 := hide c2
  clear c2 bD
  refine heldF_take (v := ?_) (Or.inl ⟨by rfl, ?_⟩) ?_
  rotate_left 1
  · intro w' hSw
    go_simp
    try with_reducible rfl
  simp only [Act.put, List.setIfInBounds_toArray, List.set_cons_zero, List.set_cons_succ]
  refine heldF_take (v := ?_) (Or.inl ⟨by rfl, ?_⟩) ?_
  rotate_left 1
  · intro w' hSw
    have c2' := hSw.cell (unhide C2) (by simp)
    go_simp
    try with_reducible rfl
  simp only [Act.put, List.setIfInBounds_toArray, List.set_cons_zero, List.set_cons_succ]
  refine heldF_take (v := .agg #[.int .i64 (wd : Int), .int .i64 (ht : Int), .slice (some ⟨g, 0, none⟩) L.length cap]) (Or.inl ⟨by rfl, ?_⟩) ?_
  · intro w' hSw
    exact exec_row 120 _ rfl w.heap.size rfl _ _ (grown_atT hSw (unhide BD) (by simp)) _ Try.underlying120 rfl (by kernel_rfl)
  simp only [Act.put, List.setIfInBounds_toArray, List.set_cons_zero, List.set_cons_succ]
  iterate 2
    refine heldF_take (v := ?_) (Or.inl ⟨by rfl, ?_⟩) ?_
    rotate_left 1
    · intro w' hSw
      go_simp
      try with_reducible rfl
    simp only [Act.put, List.setIfInBounds_toArray, List.set_cons_zero, List.set_cons_succ]
  refine heldF_skip (heldF_skip (heldF_skip (heldF_skip (heldF_nil ?_))))
  refine tailL_skip (tailL_skip (tailL_skip (tailL_skip (tailL_skip ?_))))
  refine tailL_step (fun K hK => ?_)
  go_simp
  refine (gridIndex wd r c _ _ hw hr hc k hk W1).mono ?_
  rintro e w4 ⟨rfl, g4⟩
  refine hK.out _ _ (.inr g4) ?_
  clear hK K
  try simp only [Act.put, List.setIfInBounds_toArray, List.set_cons_zero, List.set_cons_succ]
  have t4 := tD.grown g4
  have b4 := grown_atT g4 bE (by simp)
  have i0 : (0 : Int) ≤ (k : Int) := by omega
  have i1 : (k : Int) < (L.length : Int) := by omega
  refine tailL_step (fun K hK => ?_)
  go_simp
  refine hK.out _ _ (.inr g4) ?_
  clear hK K
  try simp only [Act.put, List.setIfInBounds_toArray, List.set_cons_zero, List.set_cons_succ]
  refine tailL_step (fun K hK => ?_)
  rw [if_pos (by rfl)]
  refine wp_load_mid 80 _ rfl g (k * 64) (by rfl) ((L.getD k []).map (Value.int .i64)) _ (t4.rd k hkl) Try.underlying80 rfl (by rw [List.length_map, hlen]; kernel_rfl) ?_
  refine hK.out _ _ (.inr g4) ?_
  clear hK K
  try simp only [Act.put, List.setIfInBounds_toArray, List.set_cons_zero, List.set_cons_succ]
  refine tailL_step (fun K hK => ?_)
  refine step_store_row (by rfl) 80 _ _ rfl (w.heap.size + 1) rfl (sq (L.getD k [])) rfl (sq zs64) 80 b4 (by rw [unhide HSL, sq_size, zs64_len]) (by rw [unhide HSL]; kernel_rfl) (sq_one _) ?_
  intro w5 hB5 g5
  refine hK.out _ _ (.inl rfl) (tailL_nil (NoPanic.normal ?_))
  clear hK K
  simp only [Act.put]
  go_wp2
  refine bodyPost_ret (v := .agg (sq (L.getD k []))) ?_ rfl ⟨rfl, ?_⟩
  · rw [results_c1 rfl]
    exact run_loadVar_row w5 _ 80 80 _ (0, 0) _ hB5 Try.underlying80 rfl (by rw [unhide HSL]; kernel_rfl)
  · exact grown_new (grown_trans gD g4) g5 (fun g e => by simp at e; omega)

theorem made_z64 (n j : Nat) (hj : j < n * 64) : (madeCells (Value.agg #[.int .i64 0, .int .i64 0, .int .i64 0, .int .i64 0, .int .i64 0, .int .i64 0, .int .i64 0, .int .i64 0, .int .i64 0, .int .i64 0, .int .i64 0, .int .i64 0, .int .i64 0, .int .i64 0, .int .i64 0, .int .i64 0, .int .i64 0, .int .i64 0, .int .i64 0, .int .i64 0, .int .i64 0, .int .i64 0, .int .i64 0, .int .i64 0, .int .i64 0, .int .i64 0, .int .i64 0, .int .i64 0, .int .i64 0, .int .i64 0, .int .i64 0, .int .i64 0, .int .i64 0, .int .i64 0, .int .i64 0, .int .i64 0, .int .i64 0, .int .i64 0, .int .i64 0, .int .i64 0, .int .i64 0, .int .i64 0, .int .i64 0, .int .i64 0, .int .i64 0, .int .i64 0, .int .i64 0, .int .i64 0, .int .i64 0, .int .i64 0, .int .i64 0, .int .i64 0, .int .i64 0, .int .i64 0, .int .i64 0, .int .i64 0, .int .i64 0, .int .i64 0, .int .i64 0, .int .i64 0, .int .i64 0, .int .i64 0, .int .i64 0, .int .i64 0]).cells (n * 64))[j]? = some (.int .i64 0) := by
  have h : ∀ i, i < 64 → (sq zs64)[i]? = some (.int .i64 0) := fun i hi => by
    have e0 : zs64.getD i 0 = 0 := by unfold zs64; rw [List.getD_eq_getElem?_getD, List.getElem?_replicate]; split <;> rfl
    rw [sq_at zs64 i (by rw [zs64_len]; exact hi), e0]
  rw [← sq_z64]
  have e : (Value.agg (sq zs64)).cells = sq zs64 := rfl
  rw [e]
  unfold madeCells
  have h2 := h (j % 64) (Nat.mod_lt _ (by decide))
  have hs : (sq zs64).size = 64 := by rw [sq_size, zs64_len]
  simp [hj, hs]
  rw [getElem!_def, h2]

set_option maxRecDepth 20000 in
set_option maxHeartbeats 1600000 in
theorem gridPut (wd ht g cap r c : Nat) (L : List (List Int)) (B : List Int) (hB : B.length = 64) (hw : wd ≤ 4096) (hr : r ≤ 4096) (hc : c ≤ 4096) (k : Nat) (hk : Hid (r * wd + c = k)) (hkl : k < L.length) (w : World) (hT : Th w g L) :
    Calls Try.prog 81 #[.agg #[.int .i64 (wd : Int), .int .i64 (ht : Int), .slice (some ⟨g, 0, none⟩) L.length cap], .int .i64 (r : Int), .int .i64 (c : Int), .agg (sq B)] w fun e w' => (∃ v, e = .returned v) ∧ Th w' g (L.set k B) ∧ w.grownBy w' (some g) := by
  have HSL : Hid ((sq B).size = 64) := by unfold Hid; rw [sq_size, hB]
  obtain ⟨W0, hW0⟩ : ∃ W0, (w.alloc (.cells #[.int .i64 (wd : Int), .int .i64 (ht : Int), .slice (some ⟨g, 0, none⟩) L.length cap] 120)).alloc (.cells (sq B) 80) = W0 := ⟨_, rfl⟩
  have G0 : w.grownBy W0 none := by rw [← hW0]; exact grown_alloc (World.grownBy_alloc _ _ _) _
  have b0 : W0.heap[w.heap.size]? = some (.cells #[.int .i64 (wd : Int), .int .i64 (ht : Int), .slice (some ⟨g, 0, none⟩) L.length cap] 120 (0, 0)) := by rw [← hW0, Below.heap_alloc _ _ _ (by simp)]; exact heap_alloc_new w _
  have b1 : W0.heap[w.heap.size + 1]? = some (.cells (sq B) 80 (0, 0)) := by
    rw [← hW0]
    have := heap_alloc_new (w.alloc (.cells #[.int .i64 (wd : Int), .int .i64 (ht : Int), .slice (some ⟨g, 0, none⟩) L.length cap] 120)) (.cells (sq B) 80)
    simpa using this
  have HT0 := hide (hT.grown G0)
  have HW := hide hW0
  have B0 := hide b0
  have B1 := hide b1
  have HG0 := hide G0
  clear hW0 b0 b1 G0 hT
  go_enter Try.func81, Try.ntmps81
  go_wp2
  rw [unhide HW]
  clear HW
  refine wp_region_noPanic ?_
  refine wp_region_tailL 20 (fun W => W0.drew.grownBy W none) [true, true, true, true, true, false, true, false, false] (by kernel_rfl) (fun _ _ _ _ _ h => h) rfl (by decide) (by kernel_rfl) (World.grownBy.refl _ _) ?_
  have bD : W0.drew.heap[w.heap.size]? = some (.cells #[.int .i64 (wd : Int), .int .i64 (ht : Int), .slice (some ⟨g, 0, none⟩) L.length cap] 120 (0, 0)) := unhide B0
  have bE : W0.drew.heap[w.heap.size + 1]? = some (.cells (sq B) 80 (0, 0)) := unhide B1
  have tD : Th W0.drew g L := (unhide HT0).same rfl
  have gD : w.grownBy W0.drew none := grown_drew (unhide HG0)
  generalize W0.drew = W1 at *
  clear B0 B1 HT0 HG0 W0
  have BD := hide bD
  have BE := hide bE
  have c2 : W1.cell? ⟨w.heap.size, 2, none⟩ = some (.slice (some ⟨g, 0, none⟩) L.length cap) := by rw [cell_of_row W1 _ 2 _ _ (0, 0) bD]; rfl
  have C2 := hide c2
  clear c2 bD bE
  refine heldF_take (v := ?_) (Or.inl ⟨by rfl, ?_⟩) ?_
  rotate_left 1
  · intro w' hSw
    go_simp
    try with_reducible rfl
  simp only [Act.put, List.setIfInBounds_toArray, List.set_cons_zero, List.set_cons_succ]
  refine heldF_take (v := ?_) (Or.inl ⟨by rfl, ?_⟩) ?_
  rotate_left 1
  · intro w' hSw
    have c2' := hSw.cell (unhide C2) (by simp)
    go_simp
    try with_reducible rfl
  simp only [Act.put, List.setIfInBounds_toArray, List.set_cons_zero, List.set_cons_succ]
  refine heldF_take (v := .agg #[.int .i64 (wd : Int), .int .i64 (ht : Int), .slice (some ⟨g, 0, none⟩) L.length cap]) (Or.inl ⟨by rfl, ?_⟩) ?_
  · intro w' hSw
    exact exec_row 120 _ rfl w.heap.size rfl _ _ (grown_atT hSw (unhide BD) (by simp)) _ Try.underlying120 rfl (by kernel_rfl)
  simp only [Act.put, List.setIfInBounds_toArray, List.set_cons_zero, List.set_cons_succ]
  iterate 2
    refine heldF_take (v := ?_) (Or.inl ⟨by rfl, ?_⟩) ?_
    rotate_left 1
    · intro w' hSw
      go_simp
      try with_reducible rfl
    simp only [Act.put, List.setIfInBounds_toArray, List.set_cons_zero, List.set_cons_succ]
  refine heldF_skip ?_
  refine heldF_take (v := .agg (sq B)) (Or.inl ⟨by rfl, ?_⟩) ?_
  · intro w' hSw
    exact exec_row 80 _ rfl (w.heap.size + 1) rfl _ _ (grown_atT hSw (unhide BE) (by simp)) _ Try.underlying80 rfl (by rw [unhide HSL]; kernel_rfl)
  simp only [Act.put, List.setIfInBounds_toArray, List.set_cons_zero, List.set_cons_succ]
  refine heldF_skip (heldF_skip (heldF_nil ?_))
  refine tailL_skip (tailL_skip (tailL_skip (tailL_skip (tailL_skip ?_))))
  refine tailL_step (fun K hK => ?_)
  go_simp
  refine (gridIndex wd r c _ _ hw hr hc k hk W1).mono ?_
  rintro e w4 ⟨rfl, g4⟩
  refine hK.out _ _ (.inr g4) (tailL_skip ?_)
  clear hK K
  try simp only [Act.put, List.setIfInBounds_toArray, List.set_cons_zero, List.set_cons_succ]
  have t4 := tD.grown g4
  have i0 : (0 : Int) ≤ (k : Int) := by omega
  have i1 : (k : Int) < (L.length : Int) := by omega
  refine tailL_step (fun K hK => ?_)
  go_simp
  refine hK.out _ _ (.inr g4) ?_
  clear hK K
  try simp only [Act.put, List.setIfInBounds_toArray, List.set_cons_zero, List.set_cons_succ]
  refine tailL_step (fun K hK => ?_)
  rw [if_pos (by rfl)]
  refine wp_store_mid 80 _ _ rfl g (k * 64) (sq B) (by rfl) rfl (by rw [unhide HSL]; exact t4.th k hkl) (by rw [unhide HSL]; kernel_rfl) (sq_one _) ?_
  refine hK.out _ _ (.inl rfl) (tailL_nil (NoPanic.normal ?_))
  clear hK K
  simp only [Act.put]
  have t5 := t4.put k hkl B hB
  have g5 := grown_cells g (B.map (Value.int .i64)) (k * 64) w4
  have e5 : (sq B).toList = B.map (Value.int .i64) := by simp [sq]
  rw [e5]
  generalize w4.setCells g (k * 64) (B.map (Value.int .i64)) = w5 at *
  go_wp2
  go_end0
  exact ⟨⟨_, rfl⟩, t5, grown_trans (grown_any (grown_trans gD g4)) g5⟩

theorem areaHas (a b r c : Int) (ha : 0 ≤ a ∧ a ≤ 4096) (hb : 0 ≤ b ∧ b ≤ 4096) (t : Bool) (HT : Hid ((decide (0 ≤ r ∧ r ≤ b - 1) && decide (0 ≤ c ∧ c ≤ a - 1)) = t)) (w : World) :
    Calls Try.prog 80 #[.agg #[.int .i64 a, .int .i64 b], .int .i64 r, .int .i64 c] w fun e w' => e = .returned (.bool t) ∧ w.grownBy w' none := by
  have h1 := i64_in (b - 1) (by omega)
  have h2 := i64_in (a - 1) (by omega)
  obtain ⟨t1, HT1⟩ : ∃ t1, Hid (decide (0 ≤ r ∧ r ≤ b - 1) = t1) := ⟨_, rfl⟩
  obtain ⟨t2, HT2⟩ : ∃ t2, Hid (decide (0 ≤ c ∧ c ≤ a - 1) = t2) := ⟨_, rfl⟩
  have HTT : Hid ((t1 && t2) = t) := by unfold Hid; rw [← unhide HT1, ← unhide HT2]; exact unhide HT
  clear HT
  go_enter Try.func80, Try.ntmps80
  go_wp2_with fail
  refine (inRange r 0 (b - 1) t1 HT1 _).mono ?_
  rintro e w1 ⟨rfl, rfl⟩
  cases t1
  · have ht : t = false := by rw [← unhide HTT]; rfl
    subst ht
    go_wp2
    go_ret
    exact ⟨rfl, grown_alloc (World.grownBy.refl _ _) _⟩
  · have ht : t = t2 := by rw [← unhide HTT]; rfl
    subst ht
    go_wp2_with fail
    refine (inRange c 0 (a - 1) t HT2 _).mono ?_
    rintro e w1 ⟨rfl, rfl⟩
    go_wp2
    go_ret
    exact ⟨rfl, grown_alloc (World.grownBy.refl _ _) _⟩

set_option maxRecDepth 20000 in
set_option maxHeartbeats 1600000 in
theorem newGrid (wd ht n : Nat) (hw : wd ≤ 1024) (hh : ht ≤ 1024) (hn : Hid (wd * ht = n)) (w : World) :
    Calls Try.prog 89 #[.agg #[.int .i64 (wd : Int), .int .i64 (ht : Int)]] w fun e w' => ∃ g cap, e = .returned (.agg #[.int .i64 (wd : Int), .int .i64 (ht : Int), .slice (some ⟨g, 0, none⟩) n cap]) ∧ Th w' g (List.replicate n noughts) ∧ w.heap.size ≤ g ∧ w.grownBy w' none := by
  have hn1 : n ≤ 1048576 := by rw [← unhide hn]; exact Nat.mul_le_mul hw hh
  have hni : (wd : Int) * (ht : Int) = (n : Int) := by rw [← Int.natCast_mul, unhide hn]
  obtain ⟨i0, hi, hz0, hz1, hz2⟩ := info_parts (show (Try.prog.info? 80).map (fun i => (i.zero, i.size, i.bytes)) = some (some (.agg #[.int .i64 0, .int .i64 0, .int .i64 0, .int .i64 0, .int .i64 0, .int .i64 0, .int .i64 0, .int .i64 0, .int .i64 0, .int .i64 0, .int .i64 0, .int .i64 0, .int .i64 0, .int .i64 0, .int .i64 0, .int .i64 0, .int .i64 0, .int .i64 0, .int .i64 0, .int .i64 0, .int .i64 0, .int .i64 0, .int .i64 0, .int .i64 0, .int .i64 0, .int .i64 0, .int .i64 0, .int .i64 0, .int .i64 0, .int .i64 0, .int .i64 0, .int .i64 0, .int .i64 0, .int .i64 0, .int .i64 0, .int .i64 0, .int .i64 0, .int .i64 0, .int .i64 0, .int .i64 0, .int .i64 0, .int .i64 0, .int .i64 0, .int .i64 0, .int .i64 0, .int .i64 0, .int .i64 0, .int .i64 0, .int .i64 0, .int .i64 0, .int .i64 0, .int .i64 0, .int .i64 0, .int .i64 0, .int .i64 0, .int .i64 0, .int .i64 0, .int .i64 0, .int .i64 0, .int .i64 0, .int .i64 0, .int .i64 0, .int .i64 0, .int .i64 0]), 64, 512) by kernel_rfl)
  have HI := hide hi
  have HZ0 := hide hz0
  have HZ1 := hide hz1
  have HZ2 := hide hz2
  clear hi hz0 hz1 hz2
  obtain ⟨W0, hW0⟩ : ∃ W0, (w.alloc (.cells #[.int .i64 (wd : Int), .int .i64 (ht : Int)] 115)).alloc (.cells #[.int .i64 0, .int .i64 0, .slice none 0 0] 120) = W0 := ⟨_, rfl⟩
  have G0 : w.grownBy W0 none := by rw [← hW0]; exact grown_alloc (World.grownBy_alloc _ _ _) _
  have b0 : W0.heap[w.heap.size]? = some (.cells #[.int .i64 (wd : Int), .int .i64 (ht : Int)] 115 (0, 0)) := by rw [← hW0, Below.heap_alloc _ _ _ (by simp)]; exact heap_alloc_new w _
  have b1 : W0.heap[w.heap.size + 1]? = some (.cells #[.int .i64 0, .int .i64 0, .slice none 0 0] 120 (0, 0)) := by
    rw [← hW0]
    have := heap_alloc_new (w.alloc (.cells #[.int .i64 (wd : Int), .int .i64 (ht : Int)] 115)) (.cells #[.int .i64 0, .int .i64 0, .slice none 0 0] 120)
    simpa using this
  have s0 : W0.heap.size = w.heap.size + 2 := by rw [← hW0]; simp
  have HW := hide hW0
  have B0 := hide b0
  have B1 := hide b1
  have HG0 := hide G0
  clear hW0 b0 b1 G0
  go_enter Try.func89, Try.ntmps89
  go_wp2
  rw [unhide HW]
  clear HW
  refine wp_region_noPanic ?_
  refine wp_region_tailL 20 (fun W => W0.drew.grownBy W none) [true, true, false, false, false, false] (by kernel_rfl) (fun _ _ _ _ _ h => h) rfl (by decide) (by kernel_rfl) (World.grownBy.refl _ _) ?_
  have BD : Hid (W0.drew.heap[w.heap.size]? = some (.cells #[.int .i64 (wd : Int), .int .i64 (ht : Int)] 115 (0, 0))) := unhide B0
  have BE : Hid (W0.drew.heap[w.heap.size + 1]? = some (.cells #[.int .i64 0, .int .i64 0, .slice none 0 0] 120 (0, 0))) := unhide B1
  have gD : w.grownBy W0.drew none := grown_drew (unhide HG0)
  have sD : W0.drew.heap.size = w.heap.size + 2 := s0
  generalize W0.drew = W1 at *
  clear B0 B1 HG0 s0 W0
  iterate 2
    refine heldF_take (v := .agg #[.int .i64 (wd : Int), .int .i64 (ht : Int)]) (Or.inl ⟨by rfl, ?_⟩) ?_
    · intro w' hSw
      exact exec_row 115 _ rfl w.heap.size rfl _ _ (grown_atT hSw (unhide BD) (by simp)) _ Try.underlying115 rfl (by kernel_rfl)
    simp only [Act.put, List.setIfInBounds_toArray, List.set_cons_zero, List.set_cons_succ]
  refine heldF_skip (heldF_skip (heldF_skip (heldF_skip (heldF_nil ?_))))
  refine tailL_skip (tailL_skip ?_)
  refine tailL_step (fun K hK => ?_)
  go_simp
  refine (areaCount (wd : Int) (ht : Int) (by omega) (by omega) W1).mono ?_
  rintro e w4 ⟨rfl, g4⟩
  rw [hni]
  refine hK.out _ _ (.inr g4) ?_
  clear hK K
  try simp only [Act.put, List.setIfInBounds_toArray, List.set_cons_zero, List.set_cons_succ]
  refine tailL_step (fun K hK => ?_)
  rw [if_pos (by rfl)]
  obtain ⟨w5, hrun, r1, r2⟩ := run_make_full (P := Try.prog) w4 w.heap.size 118 80 i0 (.agg #[.int .i64 0, .int .i64 0, .int .i64 0, .int .i64 0, .int .i64 0, .int .i64 0, .int .i64 0, .int .i64 0, .int .i64 0, .int .i64 0, .int .i64 0, .int .i64 0, .int .i64 0, .int .i64 0, .int .i64 0, .int .i64 0, .int .i64 0, .int .i64 0, .int .i64 0, .int .i64 0, .int .i64 0, .int .i64 0, .int .i64 0, .int .i64 0, .int .i64 0, .int .i64 0, .int .i64 0, .int .i64 0, .int .i64 0, .int .i64 0, .int .i64 0, .int .i64 0, .int .i64 0, .int .i64 0, .int .i64 0, .int .i64 0, .int .i64 0, .int .i64 0, .int .i64 0, .int .i64 0, .int .i64 0, .int .i64 0, .int .i64 0, .int .i64 0, .int .i64 0, .int .i64 0, .int .i64 0, .int .i64 0, .int .i64 0, .int .i64 0, .int .i64 0, .int .i64 0, .int .i64 0, .int .i64 0, .int .i64 0, .int .i64 0, .int .i64 0, .int .i64 0, .int .i64 0, .int .i64 0, .int .i64 0, .int .i64 0, .int .i64 0, .int .i64 0]) 64 Try.underlying118 (unhide HI) (unhide HZ0) (unhide HZ1) .i64 .i64 n (by rw [unhide HZ2]; omega) (by unfold maxLen; omega) (by have := g4.size; omega)
  have t5 : Th w5 w4.heap.size (List.replicate n noughts) := Th.made r1 (fun j hj => by
    rw [Array.getElem?_toList]
    exact made_z64 n j hj)
  have T5 := hide t5
  have g5 := grown_trans g4 r2
  have b5 := grown_atT g5 (unhide BE) (by simp)
  clear t5 r1
  unfold Oper.wp
  simp only [execOp, Act.eval, Result.andThen, Sem.run_bind]
  go_simp
  refine hK.out _ _ (.inr g5) ?_
  clear hK K hrun
  try simp only [Act.put, List.setIfInBounds_toArray, List.set_cons_zero, List.set_cons_succ]
  refine tailL_step (fun K hK => ?_)
  go_simp
  refine hK.out _ _ (.inr g5) ?_
  clear hK K
  try simp only [Act.put, List.setIfInBounds_toArray, List.set_cons_zero, List.set_cons_succ]
  refine tailL_step (fun K hK => ?_)
  refine step_store_row (by rfl) 120 _ _ rfl (w.heap.size + 1) rfl #[.int .i64 (wd : Int), .int .i64 (ht : Int), .slice (some ⟨w4.heap.size, 0, none⟩) n n] rfl _ 120 b5 rfl (by kernel_rfl) (by simp [Value.oneCell']) ?_
  intro w6 hB6 g6
  refine hK.out _ _ (.inl rfl) (tailL_nil (NoPanic.normal ?_))
  clear hK K
  simp only [Act.put]
  have s4 := g4.size
  have t6 := (unhide T5).same (g6.block w4.heap.size (unhide T5).lt (by simp; omega))
  go_wp2
  refine bodyPost_ret (v := .agg #[.int .i64 (wd : Int), .int .i64 (ht : Int), .slice (some ⟨w4.heap.size, 0, none⟩) n n]) ?_ rfl ⟨w4.heap.size, n, rfl, t6, by omega, ?_⟩
  · rw [results_c1 rfl]
    exact run_loadVar_row w6 _ 120 120 _ (0, 0) _ hB6 Try.underlying120 rfl (by kernel_rfl)
  · exact grown_new (grown_trans gD g5) g6 (fun g e => by simp at e; omega)

end Go.Proofs.Ytibgldanmhckiaa

namespace Go.Proofs.Ytibgldanmhckiaa
open Go.RowKit Go.Shelf

theorem OwR.head {α : Type} {e : TypeId} {P : World → Value → α → List Nat → Prop} {w : World} {v : Value} {L : List α} {F : List Nat} (h : OwR e P w v L F) : ∀ x ∈ blk v, x ∈ F := by
  obtain ⟨us, Fs, _, _, _, _, rfl⟩ := h
  intro x hx
  simp [hx]
theorem OwR.none0 {α : Type} {e : TypeId} (P : World → Value → α → List Nat → Prop) {w : World} {v : Value} {base : Nat} (h : w.ownsRow base e 1 v 0 []) : OwR e P w v [] (blk v) :=
  ⟨[], [], rfl, rfl, own_base h (Nat.zero_le _), fun i hi => absurd hi (by simp), by simp⟩

set_option maxRecDepth 20000 in
set_option maxHeartbeats 3200000 in
theorem blockLists (wd ht g cap : Nat) (L : List (List Int)) (hw : wd ≤ 1024) (hh : ht ≤ 1024) (hL : L.length ≤ 1000000) (w : World) (hT : Th w g L) :
    Calls Try.prog 82 #[.agg #[.int .i64 (wd : Int), .int .i64 (ht : Int), .slice (some ⟨g, 0, none⟩) L.length cap]] w fun e w' => ∃ v F, e = .returned v ∧ Ow2 w' v L F ∧ F.Nodup ∧ (∀ x ∈ F, w.heap.size ≤ x) ∧ w.grownBy w' none := by
  obtain ⟨W0, hW0⟩ : ∃ W0, w.alloc (.cells #[.int .i64 (wd : Int), .int .i64 (ht : Int), .slice (some ⟨g, 0, none⟩) L.length cap] 120) = W0 := ⟨_, rfl⟩
  have G0 : w.grownBy W0 none := by rw [← hW0]; exact World.grownBy_alloc _ _ _
  have b0 : W0.heap[w.heap.size]? = some (.cells #[.int .i64 (wd : Int), .int .i64 (ht : Int), .slice (some ⟨g, 0, none⟩) L.length cap] 120 (0, 0)) := by rw [← hW0]; exact heap_alloc_new w _
  have HT0 := hide (hT.grown G0)
  have c2 : W0.cell? ⟨w.heap.size, 2, none⟩ = some (.slice (some ⟨g, 0, none⟩) L.length cap) := by rw [cell_of_row W0 _ 2 _ _ (0, 0) b0]; rfl
  have C2 := hide c2
  have HW := hide hW0
  have HG0 := hide G0
  have s0 : W0.heap.size = w.heap.size + 1 := by rw [← hW0]; simp
  have HLL := hide hT.len
  have hn1 : wd * ht ≤ 1024 * 1024 := Nat.mul_le_mul hw hh
  clear hW0 G0 hT b0 c2
  obtain ⟨i0, hi, hz0, hz1, hz2⟩ := info_parts infoIntSS
  have HI := hide hi
  have HZ0 := hide hz0
  have HZ1 := hide hz1
  have HZ2 := hide hz2
  clear hi hz0 hz1 hz2
  go_enter Try.func82, Try.ntmps82
  go_wp2_with fail
  rw [unhide HW]
  clear HW
  refine (areaCount (wd : Int) (ht : Int) (by omega) (by omega) W0).mono ?_
  rintro e w1 ⟨rfl, g1⟩
  have c2 := g1.cell (unhide C2) (by simp)
  go_wp2_with (at_make; refine wpList_make_own _ rfl _ _ 42 rfl 0 32 i0 (.slice none 0 0) 1 Try.underlying42 (unhide HI) (unhide HZ0) (unhide HZ1) .i64 .i64 _ (wd * ht) rfl rfl (by rw [Int.natCast_mul]) (by rw [unhide HZ2]; omega) (by unfold maxLen; omega) (Nat.zero_le _) ?_)
  intro w2 hown g2
  have c2' := g2.cell c2 (by simp)
  have HO2 : Hid (Ow2 w2 (.slice (some ⟨w1.heap.size, 0, none⟩) 0 (wd * ht)) (L.take 0) (blk (.slice (some ⟨w1.heap.size, 0, none⟩) 0 (wd * ht)))) := OwR.none0 _ hown
  have g12 := grown_trans g1 g2
  have s1 := g1.size
  have HL2 : Hid (∀ x ∈ blk (.slice (some ⟨w1.heap.size, 0, none⟩) 0 (wd * ht)), W0.heap.size ≤ x) := fun x hx => by
    have e9 : w1.heap.size = x := Option.some.inj (mem_blk.1 hx)
    omega
  clear hown c2 g1 g2
  go_wp2
  go_loopw [3, 13] (fun v kv wr => ∃ (k : Nat) (vo : Option Addr) (vn vc : Nat) (F2 : List Nat), k ≤ L.length ∧ v = .slice vo vn vc ∧ kv = .int .i64 k ∧ Hid (Ow2 wr (.slice vo vn vc) (L.take k) F2) ∧ Hid F2.Nodup ∧ Hid (∀ x ∈ F2, W0.heap.size ≤ x) ∧ Hid (W0.grownBy wr none)) (fun _ kv _ => L.length - (intOf kv).toNat)
  case atStart => exact ⟨0, some ⟨w1.heap.size, 0, none⟩, 0, wd * ht, _, Nat.zero_le _, rfl, rfl, HO2, blk_nodup _, HL2, g12⟩
  case round =>
    clear HO2 HL2 c2' g12
    obtain ⟨k, vo, vn, vc, F2, hk, rfl, rfl, ho, hn2, hl2, hg⟩ := hrel
    by_cases hkm : k < L.length
    · have hkI : (k : Int) < (L.length : Int) := by omega
      obtain ⟨B, HBE⟩ : ∃ B, Hid (L.getD k [] = B) := ⟨_, rfl⟩
      have hlen : B.length = 64 := by rw [← unhide HBE]; exact unhide HLL k hkm
      have TK : Hid (∀ j v, (sq B)[j]? = some v → wr.cell? ⟨g, k * 64 + j, none⟩ = some v) := fun j v hv => ((unhide HT0).grown (unhide hg)).rd k hkm j v (by rw [unhide HBE]; simpa [sq] using hv)
      have HSL : Hid ((sq B).size = 64) := by unfold Hid; rw [sq_size, hlen]
      have HB := hide (heap_alloc_new wr (.cells #[.int .i64 0, .int .i64 0, .int .i64 0, .int .i64 0, .int .i64 0, .int .i64 0, .int .i64 0, .int .i64 0, .int .i64 0, .int .i64 0, .int .i64 0, .int .i64 0, .int .i64 0, .int .i64 0, .int .i64 0, .int .i64 0, .int .i64 0, .int .i64 0, .int .i64 0, .int .i64 0, .int .i64 0, .int .i64 0, .int .i64 0, .int .i64 0, .int .i64 0, .int .i64 0, .int .i64 0, .int .i64 0, .int .i64 0, .int .i64 0, .int .i64 0, .int .i64 0, .int .i64 0, .int .i64 0, .int .i64 0, .int .i64 0, .int .i64 0, .int .i64 0, .int .i64 0, .int .i64 0, .int .i64 0, .int .i64 0, .int .i64 0, .int .i64 0, .int .i64 0, .int .i64 0, .int .i64 0, .int .i64 0, .int .i64 0, .int .i64 0, .int .i64 0, .int .i64 0, .int .i64 0, .int .i64 0, .int .i64 0, .int .i64 0, .int .i64 0, .int .i64 0, .int .i64 0, .int .i64 0, .int .i64 0, .int .i64 0, .int .i64 0, .int .i64 0] 80))
      have HLK : Hid (L.take k ++ [B] = L.take (k + 1)) := by
        unfold Hid
        have e9 : L.getD k [] = L[k] := by simp [hkm]
        rw [← unhide HBE, e9]
        exact takeX_next L k hkm
      have HRL : Hid ((L.take k).length ≤ 1000000) := by unfold Hid; rw [List.length_take]; omega
      go_wp2_with (first | (refine load_mid rfl 80 _ rfl g (k * 64) rfl (sq B) (unhide TK) _ Try.underlying80 rfl (by rw [unhide HSL]; kernel_rfl) ?_) | (refine load_row rfl 80 _ rfl wr.heap.size rfl (sq B) 80 (unhide HB3) _ Try.underlying80 rfl (by rw [unhide HSL]; kernel_rfl) ?_) | (refine store_row rfl 80 _ _ rfl wr.heap.size rfl (sq B) rfl #[.int .i64 0, .int .i64 0, .int .i64 0, .int .i64 0, .int .i64 0, .int .i64 0, .int .i64 0, .int .i64 0, .int .i64 0, .int .i64 0, .int .i64 0, .int .i64 0, .int .i64 0, .int .i64 0, .int .i64 0, .int .i64 0, .int .i64 0, .int .i64 0, .int .i64 0, .int .i64 0, .int .i64 0, .int .i64 0, .int .i64 0, .int .i64 0, .int .i64 0, .int .i64 0, .int .i64 0, .int .i64 0, .int .i64 0, .int .i64 0, .int .i64 0, .int .i64 0, .int .i64 0, .int .i64 0, .int .i64 0, .int .i64 0, .int .i64 0, .int .i64 0, .int .i64 0, .int .i64 0, .int .i64 0, .int .i64 0, .int .i64 0, .int .i64 0, .int .i64 0, .int .i64 0, .int .i64 0, .int .i64 0, .int .i64 0, .int .i64 0, .int .i64 0, .int .i64 0, .int .i64 0, .int .i64 0, .int .i64 0, .int .i64 0, .int .i64 0, .int .i64 0, .int .i64 0, .int .i64 0, .int .i64 0, .int .i64 0, .int .i64 0, .int .i64 0] 80 (unhide HB) (by rw [unhide HSL]; rfl) (by rw [unhide HSL]; kernel_rfl) (sq_one _) ?_; intro w3 hB3 g3; have HB3 := hide hB3; have G3 := hide (grown_new (grown_alloc (unhide hg) (.cells #[.int .i64 0, .int .i64 0, .int .i64 0, .int .i64 0, .int .i64 0, .int .i64 0, .int .i64 0, .int .i64 0, .int .i64 0, .int .i64 0, .int .i64 0, .int .i64 0, .int .i64 0, .int .i64 0, .int .i64 0, .int .i64 0, .int .i64 0, .int .i64 0, .int .i64 0, .int .i64 0, .int .i64 0, .int .i64 0, .int .i64 0, .int .i64 0, .int .i64 0, .int .i64 0, .int .i64 0, .int .i64 0, .int .i64 0, .int .i64 0, .int .i64 0, .int .i64 0, .int .i64 0, .int .i64 0, .int .i64 0, .int .i64 0, .int .i64 0, .int .i64 0, .int .i64 0, .int .i64 0, .int .i64 0, .int .i64 0, .int .i64 0, .int .i64 0, .int .i64 0, .int .i64 0, .int .i64 0, .int .i64 0, .int .i64 0, .int .i64 0, .int .i64 0, .int .i64 0, .int .i64 0, .int .i64 0, .int .i64 0, .int .i64 0, .int .i64 0, .int .i64 0, .int .i64 0, .int .i64 0, .int .i64 0, .int .i64 0, .int .i64 0, .int .i64 0] 80)) g3 (fun q e => by simp at e; have := (unhide hg).size; omega)); have O3 := hide (ok2.wr (unhide ho) (Wr.trans (Wr.ofNone (World.grownBy_alloc wr (.cells #[.int .i64 0, .int .i64 0, .int .i64 0, .int .i64 0, .int .i64 0, .int .i64 0, .int .i64 0, .int .i64 0, .int .i64 0, .int .i64 0, .int .i64 0, .int .i64 0, .int .i64 0, .int .i64 0, .int .i64 0, .int .i64 0, .int .i64 0, .int .i64 0, .int .i64 0, .int .i64 0, .int .i64 0, .int .i64 0, .int .i64 0, .int .i64 0, .int .i64 0, .int .i64 0, .int .i64 0, .int .i64 0, .int .i64 0, .int .i64 0, .int .i64 0, .int .i64 0, .int .i64 0, .int .i64 0, .int .i64 0, .int .i64 0, .int .i64 0, .int .i64 0, .int .i64 0, .int .i64 0, .int .i64 0, .int .i64 0, .int .i64 0, .int .i64 0, .int .i64 0, .int .i64 0, .int .i64 0, .int .i64 0, .int .i64 0, .int .i64 0, .int .i64 0, .int .i64 0, .int .i64 0, .int .i64 0, .int .i64 0, .int .i64 0, .int .i64 0, .int .i64 0, .int .i64 0, .int .i64 0, .int .i64 0, .int .i64 0, .int .i64 0, .int .i64 0] 80) none)) (Wr.ofRow (F := [wr.heap.size]) g3 (fun q e => by have e9 := Option.some.inj e; simp [e9]))) (fun x hx e => by simp at e; have := ok2.lt _ _ _ _ (unhide ho) x hx; omega)); clear hB3 g3 HB))
      refine (list B hlen _).mono ?_
      rintro e w4 ⟨v4, rfl, o4, g4⟩
      obtain ⟨uo, uc, rfl⟩ := own_form o4
      have hs3 : wr.heap.size < w3.heap.size := (Array.getElem?_eq_some_iff.1 (unhide HB3)).1
      have hgs := (unhide hg).size
      have HU : Hid (OwI .i64 3 w4 (.slice uo 64 uc) B (blk (.slice uo 64 uc))) := ⟨by rw [hlen]; exact own_base o4 (Nat.zero_le _), rfl⟩
      have HO4 := hide (ok2.keep (unhide O3) g4)
      have G4 := hide (grown_trans (unhide G3) g4)
      have HDU : Hid (∀ x ∈ blk (.slice uo 64 uc), x ∉ F2 ∧ W0.heap.size ≤ x) := fun x hx => by
        have e9 := (o4.lt x (mem_blk.1 hx)).1
        exact ⟨fun h => by have := ok2.lt _ _ _ _ (unhide ho) x h; omega, by omega⟩
      clear o4 g4 O3 G3 HB3 ho hg TK
      go_wp2_with (at_builtin; refine append_rowR ok1 Try.underlying42 infoIntSS rfl _ _ rfl (.slice vo vn vc) (L.take k) F2 rfl (unhide HO4) (unhide hn2) _ B _ (unhide HU) (blk_nodup _) (fun x hx => (unhide HDU x hx).1) rfl (unhide HRL) _ (unhide HLK) ?_)
      intro v5 w5 F5 o5 n5 m5 g5
      obtain ⟨vo5, vc5, rfl⟩ := o5.form
      have HO5 := hide o5
      have HN5 := hide n5
      have HL5 : Hid (∀ x ∈ F5, W0.heap.size ≤ x) := fun x hx => by
        rcases m5 x hx with h | h | h
        · exact unhide hl2 x h
        · exact (unhide HDU x h).2
        · have := (unhide G4).size; omega
      have G5 := hide (Wr.new (unhide G4) g5 (fun x hx => unhide hl2 x ((unhide HO4).head x hx)))
      clear o5 n5 m5 g5 HO4 HU HDU hn2 hl2 HRL G4
      go_wp2
      go_roundw
      case rel => exact ⟨k + 1, vo5, _, vc5, F5, by omega, rfl, by go_num, HO5, HN5, HL5, G5⟩
      case measure => simp [intOf]; omega
    · obtain rfl : k = L.length := by omega
      have e8 : L.take L.length = L := List.take_length
      rw [e8] at ho
      go_wp2
      go_ret
      exact ⟨_, F2, rfl, unhide ho, unhide hn2, fun x hx => by have := unhide hl2 x hx; omega, grown_trans (unhide HG0) (unhide hg)⟩

end Go.Proofs.Ytibgldanmhckiaa

namespace Go.Proofs.Ytibgldanmhckiaa
open Go.RowKit

theorem step_append_rowsG {α : Type} {P : World → (Nat → Value) → α → List Nat → Prop} (hP : OkG P) {e T : TypeId} {sz bytes : Nat} {z : Value} (hT : Try.prog.underlying T = some (.slice e)) (hI : (Try.prog.info? e).map (fun i => (i.zero, i.size, i.bytes)) = some (some z, sz, bytes)) (hzs : z.cells.size = sz) (hsz : 0 < sz) (hbt : bytes ≤ 1000)
    {w : World} {ops : Array Oper} {o : Oper} {a : Act} {K : Act → World → Prop} {Q : Exit → Act → World → Prop} {E : Prop} (hgd : o.guard = none) (s x : Operand)
    (ho : o.op = .call { callee := .builtin .append, args := #[s, x], argTypes := #[T, T] })
    (v : Value) (L : List α) (F : List Nat) (hs : a.eval s = v) (hown : OwG e sz P w v L F) (hF : F.Nodup)
    (cs : Array Value) (m : Nat) (V : Nat → Nat → Value) (hcs : cs.toList = rowsK m sz V) (M : List α) (hM : M.length = m) (Gs : List (List Nat)) (hGs : Gs.length = m) (hu : ∀ i (h : i < M.length), P w (V i) M[i] (Gs.getD i [])) (hG : Gs.flatten.Nodup) (hd : ∀ x ∈ Gs.flatten, x ∉ F) (h1c : ∀ u ∈ cs.toList, u.oneCell' = true)
    (H : Nat) (hH : w.heap.size = H) (hx : a.eval x = .slice (some ⟨H, 0, none⟩) m m) (hm0 : 0 < m) (hb : L.length + m ≤ 1000000) (R : List α) (hR : L ++ M = R)
    (h : ∀ v' w' F', OwG e sz P w' v' R F' → F'.Nodup → (∀ x ∈ F', x ∈ F ∨ x ∈ Gs.flatten ∨ w.heap.size ≤ x) → Wr (blk v) w w' → K (a.put o.dst v') w') :
    if Region.wanted o (yielded ops a.tmps) = true then Oper.wp Try.prog o a (w.alloc (.cells cs e)) K Q else E := by
  subst hR
  subst hH
  obtain ⟨i0, hi, hz0, hz1, hz2⟩ := info_parts hI
  obtain ⟨U, Fs, l2, o1, els, rfl⟩ := hown
  have hn := List.nodup_append.1 hF
  have hbb : (L.length + m) * bytes ≤ 1000000 * 1000 := Nat.mul_le_mul hb hbt
  refine step_append_lies _ hgd s x T ho 0 e i0 _ sz bytes hT hi hz0 hz1 hz2 hzs hsz v L.length _ hs (o1.alloc _) ⟨w.heap.size, 0, none⟩ m m cs.toList hx (by rw [hcs, rowsK_len]) (World.news_of_block (cs := cs) (t := e) (fr := (0, 0)) (heap_alloc_new w _)) h1c hm0 (by unfold maxLen; omega) (by omega) (Nat.zero_le _) _ rfl ?_
  intro g0 cap0 w' h1 h2 h4' _
  obtain ⟨v', hv'⟩ : ∃ v', Value.slice (some ⟨g0, 0, none⟩) (L.length + m) cap0 = v' := ⟨_, rfl⟩
  have h4 : v'.ownBlock = v.ownBlock ∨ v'.ownBlock = some (w.alloc (.cells cs e)).heap.size := by
    rcases h4' with h5 | h5
    · left; rw [← hv', h5]; rfl
    · right; rw [← hv', ← h5]; rfl
  rw [hv'] at h1 ⊢
  clear hv' h4'
  have hga : w.grownBy w' v.ownBlock := ⟨h2.os, h2.tape, h2.output, by have h := h2.size; simp at h; omega, fun k hk hr => (h2.block k (by simp; omega) hr).trans (Below.heap_alloc _ _ _ hk)⟩
  have hw : Wr (blk v) w w' := Wr.ofRow hga (fun g e => mem_blk.2 e)
  have hvb : ∀ y, y ∈ blk v' → y ∈ blk v ∨ w.heap.size ≤ y := fun y hy => by
    rcases h4 with h4 | h4
    · exact .inl (mem_blk.2 (by rw [← h4]; exact mem_blk.1 hy))
    · have e1 := mem_blk.1 hy
      rw [h4] at e1
      have e2 : (w.alloc (.cells cs e)).heap.size = y := Option.some.inj e1
      exact .inr (by simp at e2; omega)
  have hfl : (Fs ++ Gs).flatten = Fs.flatten ++ Gs.flatten := by simp
  have hlt : ∀ y ∈ Fs.flatten, y < w.heap.size := fun y hy => by
    obtain ⟨l, hl, hyl⟩ := List.mem_flatten.1 hy
    obtain ⟨i, hi, rfl⟩ := List.mem_iff_getElem.1 hl
    exact hP.lt w _ _ _ (els i (by omega)) y (by simpa [hi] using hyl)
  have hltG : ∀ y ∈ Gs.flatten, y < w.heap.size := fun y hy => by
    obtain ⟨l, hl, hyl⟩ := List.mem_flatten.1 hy
    obtain ⟨i, hi, rfl⟩ := List.mem_iff_getElem.1 hl
    exact hP.lt w _ _ _ (hu i (by omega)) y (by simpa [hi] using hyl)
  refine h v' w' (blk v' ++ (Fs ++ Gs).flatten) ⟨fun i j => if i < L.length then U i j else V (i - L.length) j, Fs ++ Gs, by simp [l2, hGs, hM], ?_, fun i hi => ?_, rfl⟩ ?_ ?_ hw
  · rw [List.length_append, hM, ← rowsK_append L.length m sz hsz, ← hcs]; exact h1
  · by_cases hil : i < L.length
    · have e1 : (fun j => if i < L.length then U i j else V (i - L.length) j) = U i := by funext j; rw [if_pos hil]
      have e2 : (Fs ++ Gs).getD i [] = Fs.getD i [] := by simp [List.getElem?_append_left (show i < Fs.length by omega)]
      dsimp only
      rw [e1, e2, List.getElem_append_left hil]
      exact hP.wr (els i hil) hw (fun y hy hy2 => hn.2.2 y hy2 y (flat_in (by omega) y hy) rfl)
    · have him : i - L.length < M.length := by rw [List.length_append] at hi; omega
      have e1 : (fun j => if i < L.length then U i j else V (i - L.length) j) = V (i - L.length) := by funext j; rw [if_neg hil]
      have e2 : (Fs ++ Gs).getD i [] = Gs.getD (i - L.length) [] := by simp [List.getElem?_append_right (show Fs.length ≤ i by omega), l2]
      dsimp only
      rw [e1, e2, List.getElem_append_right (by omega)]
      exact hP.wr (hu (i - L.length) him) hw (fun y hy hy2 => hd y (flat_in (by omega) y hy) (by simp [hy2]))
  · rw [hfl]
    refine List.nodup_append.2 ⟨blk_nodup v', List.nodup_append.2 ⟨hn.2.1, hG, fun y hy z hz => ?_⟩, fun y hy z hz => ?_⟩
    · rintro rfl
      exact hd y hz (by simp [hy])
    · rintro rfl
      rcases List.mem_append.1 hz with hz | hz
      · rcases hvb y hy with h5 | h5
        · exact hn.2.2 y h5 y hz rfl
        · have := hlt y hz; omega
      · rcases hvb y hy with h5 | h5
        · exact hd y hz (by simp [h5])
        · have := hltG y hz; omega
  · intro y hy
    rw [hfl] at hy
    rcases List.mem_append.1 hy with hy | hy
    · rcases hvb y hy with h5 | h5
      · exact .inl (by simp [h5])
      · exact .inr (.inr h5)
    · rcases List.mem_append.1 hy with hy | hy
      · exact .inl (by simp [hy])
      · exact .inr (.inl hy)

end Go.Proofs.Ytibgldanmhckiaa

namespace Go.Proofs.Ytibgldanmhckiaa
open Go.RowKit Go.Shelf

/-- The cells of planes. -/
def plV (X : Array Value) (gv : Value) : Array Value := X ++ #[gv]
theorem plV_size {X : Array Value} (h : X.size = 21) (gv : Value) : (plV X gv).size = 22 := by simp [plV, h]
theorem plV_none : plV #[.int .i64 0, .int .i64 0, .int .i64 0, .int .i64 0, .int .i64 0, .int .i64 0, .int .i64 0, .int .i64 0, .int .i64 0, .int .i64 0, .int .i64 0, .int .i64 0, .int .i64 0, .int .i64 0, .int .i64 0, .int .i64 0, .int .i64 0, .int .i64 0, .int .i64 0, .int .i64 0, .int .i64 0] (.slice none 0 0) = #[.int .i64 0, .int .i64 0, .int .i64 0, .int .i64 0, .int .i64 0, .int .i64 0, .int .i64 0, .int .i64 0, .int .i64 0, .int .i64 0, .int .i64 0, .int .i64 0, .int .i64 0, .int .i64 0, .int .i64 0, .int .i64 0, .int .i64 0, .int .i64 0, .int .i64 0, .int .i64 0, .int .i64 0, .slice none 0 0] := rfl
theorem plV_one {X : Array Value} (h : X.all (·.oneCell') = true) {gv : Value} (hg : gv.oneCell' = true) : (plV X gv).all (·.oneCell') = true := by
  rw [Array.all_eq_true_iff_forall_mem] at h ⊢
  intro v hv
  simp only [plV, Array.mem_append, List.mem_toArray, List.mem_singleton] at hv
  rcases hv with hv | rfl
  · exact h v hv
  · exact hg
theorem pl_grids {X : Array Value} (h : X.size = 21) {gv : Value} {w : World} {b : Nat} {t : TypeId} (hb : w.heap[b]? = some (.cells (plV X gv) t (0, 0))) : w.cell? ⟨b, 21, none⟩ = some gv ∧ w.frozen? ⟨b, 21, none⟩ = false := by
  refine ⟨?_, frozen_of_row w b 21 _ _ hb⟩
  rw [cell_of_row w _ 21 _ _ (0, 0) hb]
  unfold plV
  rw [Array.getElem?_append_right (by omega), h]
  rfl
theorem pl_frame {X : Array Value} {gv : Value} {w : World} {b : Nat} {t : TypeId} (hb : w.heap[b]? = some (.cells (plV X gv) t (0, 0))) : ∀ j v, X[j]? = some v → w.cell? ⟨b, 0 + j, none⟩ = some v := by
  intro j v hv
  rw [Nat.zero_add, cell_of_row w _ j _ _ (0, 0) hb]
  have hj := (Array.getElem?_eq_some_iff.1 hv).1
  unfold plV
  rw [Array.getElem?_append_left hj]
  exact hv
theorem pl_set {X : Array Value} (h : X.size = 21) {gv : Value} {w : World} {b : Nat} {t : TypeId} (hb : w.heap[b]? = some (.cells (plV X gv) t (0, 0))) (gv' : Value) : (w.setCell ⟨b, 21, none⟩ gv').heap[b]? = some (.cells (plV X gv') t (0, 0)) := by
  have e : (plV X gv).setIfInBounds 21 gv' = plV X gv' := by
    unfold plV
    apply Array.ext_getElem?
    intro i
    rw [Array.getElem?_setIfInBounds]
    by_cases hi : 21 = i
    · subst hi
      rw [if_pos rfl, if_pos (by simp [h]), Array.getElem?_append_right (by omega), h]
      rfl
    · rw [if_neg hi]
      by_cases hl : i < X.size
      · rw [Array.getElem?_append_left hl, Array.getElem?_append_left hl]
      · rw [Array.getElem?_eq_none (by simp; omega), Array.getElem?_eq_none (by simp; omega)]
  rw [heap_setCell_same w b 21 _ _ _ hb, e]
theorem arr21 {X : Array Value} (h : X.size = 21) : ∃ x0 x1 x2 x3 x4 x5 x6 x7 x8 x9 x10 x11 x12 x13 x14 x15 x16 x17 x18 x19 x20, X = #[x0, x1, x2, x3, x4, x5, x6, x7, x8, x9, x10, x11, x12, x13, x14, x15, x16, x17, x18, x19, x20] := by
  obtain ⟨l⟩ := X
  have hl : l.length = 21 := by simpa using h
  match l, hl with
  | [x0, x1, x2, x3, x4, x5, x6, x7, x8, x9, x10, x11, x12, x13, x14, x15, x16, x17, x18, x19, x20], _ => exact ⟨x0, x1, x2, x3, x4, x5, x6, x7, x8, x9, x10, x11, x12, x13, x14, x15, x16, x17, x18, x19, x20, rfl⟩
/-- Planes of a frame and no grids yet. -/
theorem built_pl {X : Array Value} (h : X.size = 21) : Try.prog.built 76 [(0, .agg X)] = some (plV X (.slice none 0 0)) := by
  obtain ⟨x0, x1, x2, x3, x4, x5, x6, x7, x8, x9, x10, x11, x12, x13, x14, x15, x16, x17, x18, x19, x20, rfl⟩ := arr21 h
  kernel_rfl
theorem build_pl {ops : Array Oper} {rest : List Oper} {op : Oper} {a : Act} {w : World} {Q : Exit → Act → World → Prop} (hw : Region.wanted op (yielded ops a.tmps) = true) (x : Operand) (ho : op.op = .build 76 #[(0, x)]) (X : Array Value) (hs : X.size = 21) (hx : a.eval x = .agg X)
    (h : wpList Try.prog ops Q rest (a.put op.dst (.agg (plV X (.slice none 0 0)))) w) : wpList Try.prog ops Q (op :: rest) a w :=
  BigFrame.wpList_want hw fun K hK => by
    have hr := run_build (P := Try.prog) w 76 #[(0, .agg X)] _ (built_pl hs)
    unfold Oper.wp execOp
    simp only [ho, List.map_toArray, List.map_cons, List.map_nil, hx, Sem.run_bind, hr, Result.andThen_ok, Sem.run_pure]
    exact hK _ _ h

/-- New grids. -/
def newGr (n : Nat) (bw bh : Nat → Nat) : List Gd := (List.range n).map fun c => (bw c, bh c, List.replicate (bw c * bh c) noughts)
theorem newGr_next (bw bh : Nat → Nat) (i : Nat) : newGr i bw bh ++ [(bw i, bh i, List.replicate (bw i * bh i) noughts)] = newGr (i + 1) bw bh := by
  unfold newGr
  rw [List.range_succ, List.map_append]
  rfl
theorem newGr_len (n : Nat) (bw bh : Nat → Nat) : (newGr n bw bh).length = n := by simp [newGr]
theorem OwG.head {α : Type} {e : TypeId} {sz : Nat} {P : World → (Nat → Value) → α → List Nat → Prop} {w : World} {v : Value} {L : List α} {F : List Nat} (h : OwG e sz P w v L F) : ∀ x ∈ blk v, x ∈ F := by
  obtain ⟨U, Fs, _, _, _, rfl⟩ := h
  intro x hx
  simp [hx]
abbrev OwGr := OwG 120 3 GrP
theorem okGr : OwOk OwGr := OwG.ok GrP.ok

/-- Planes while they are made. -/
structure Ep (w wr : World) (X : Array Value) (gv : Value) (G : List Gd) (F : List Nat) : Prop where
  x : wr.heap[w.heap.size]? = some (.cells X 73 (0, 0))
  r : wr.heap[w.heap.size + 1]? = some (.cells #[.int .i64 0, .int .i64 0, .int .i64 0, .int .i64 0, .int .i64 0, .int .i64 0, .int .i64 0, .int .i64 0, .int .i64 0, .int .i64 0, .int .i64 0, .int .i64 0, .int .i64 0, .int .i64 0, .int .i64 0, .int .i64 0, .int .i64 0, .int .i64 0, .int .i64 0, .int .i64 0, .int .i64 0, .slice none 0 0] 76 (0, 0))
  all : wr.heap[w.heap.size + 2]? = some (.cells (plV X gv) 76 (0, 0))
  own : OwGr wr gv G F
  nd : F.Nodup
  lo : ∀ g ∈ F, w.heap.size + 3 ≤ g
  grown : w.grownBy wr none
theorem Ep.size {w wr : World} {X : Array Value} {gv : Value} {G : List Gd} {F : List Nat} (h : Ep w wr X gv G F) : w.heap.size + 3 ≤ wr.heap.size := (Array.getElem?_eq_some_iff.1 h.all).1
theorem Ep.new {w wr w' : World} {X : Array Value} {gv : Value} {G : List Gd} {F : List Nat} (h : Ep w wr X gv G F) (g : wr.grownBy w' none) : Ep w w' X gv G F :=
  ⟨grown_atT g h.x (by simp), grown_atT g h.r (by simp), grown_atT g h.all (by simp), okGr.keep h.own g, h.nd, h.lo, grown_trans h.grown g⟩

end Go.Proofs.Ytibgldanmhckiaa

namespace Go.Proofs.Ytibgldanmhckiaa
open Go.RowKit Go.Shelf

set_option maxRecDepth 20000 in
set_option maxHeartbeats 3200000 in
theorem emptyPlanes (X : Array Value) (hs : X.size = 21) (h1 : X.all (·.oneCell') = true) (n : Nat) (hn : n ≤ 4) (h4 : X[4]? = some (.int .i64 (n : Int))) (bw bh : Nat → Nat) (hbd : ∀ c, c < n → bw c ≤ 1024 ∧ bh c ≤ 1024)
    (HB : Hid (∀ c, c < n → ∀ W, Calls Try.prog 90 #[.agg X, .int .i64 (c : Int)] W fun e W' => e = .returned (.agg #[.int .i64 (bw c : Int), .int .i64 (bh c : Int)]) ∧ W.grownBy W' none)) (w : World) :
    Calls Try.prog 57 #[.agg X] w fun e w' => ∃ gv F, e = .returned (.agg (plV X gv)) ∧ OwGr w' gv (newGr n bw bh) F ∧ F.Nodup ∧ (∀ x ∈ F, w.heap.size ≤ x) ∧ w.grownBy w' none := by
  have HI : Hid ((Try.prog.info? 120).map (fun i => (i.zero, i.size, i.bytes)) = some (some (.agg #[.int .i64 0, .int .i64 0, .slice none 0 0]), 3, 40)) := by unfold Hid; kernel_rfl
  obtain ⟨W0, hW0⟩ : ∃ W0, (w.alloc (.cells X 73)).alloc (.cells #[.int .i64 0, .int .i64 0, .int .i64 0, .int .i64 0, .int .i64 0, .int .i64 0, .int .i64 0, .int .i64 0, .int .i64 0, .int .i64 0, .int .i64 0, .int .i64 0, .int .i64 0, .int .i64 0, .int .i64 0, .int .i64 0, .int .i64 0, .int .i64 0, .int .i64 0, .int .i64 0, .int .i64 0, .slice none 0 0] 76) = W0 := ⟨_, rfl⟩
  have G0 : w.grownBy W0 none := by rw [← hW0]; exact grown_alloc (World.grownBy_alloc _ _ _) _
  have b0 : W0.heap[w.heap.size]? = some (.cells X 73 (0, 0)) := by rw [← hW0, Below.heap_alloc _ _ _ (by simp)]; exact heap_alloc_new w _
  have b1 : W0.heap[w.heap.size + 1]? = some (.cells #[.int .i64 0, .int .i64 0, .int .i64 0, .int .i64 0, .int .i64 0, .int .i64 0, .int .i64 0, .int .i64 0, .int .i64 0, .int .i64 0, .int .i64 0, .int .i64 0, .int .i64 0, .int .i64 0, .int .i64 0, .int .i64 0, .int .i64 0, .int .i64 0, .int .i64 0, .int .i64 0, .int .i64 0, .slice none 0 0] 76 (0, 0)) := by
    rw [← hW0]
    have := heap_alloc_new (w.alloc (.cells X 73)) (.cells #[.int .i64 0, .int .i64 0, .int .i64 0, .int .i64 0, .int .i64 0, .int .i64 0, .int .i64 0, .int .i64 0, .int .i64 0, .int .i64 0, .int .i64 0, .int .i64 0, .int .i64 0, .int .i64 0, .int .i64 0, .int .i64 0, .int .i64 0, .int .i64 0, .int .i64 0, .int .i64 0, .int .i64 0, .slice none 0 0] 76)
    simpa using this
  have s0 : W0.heap.size = w.heap.size + 2 := by rw [← hW0]; simp
  have HW := hide hW0
  have B0 := hide b0
  have B1 := hide b1
  have HG0 := hide G0
  have HX4 := hide h4
  have HSX := hide hs
  have HBD := hide hbd
  have HX1 := hide h1
  have B2 : Hid ((W0.alloc (.cells #[.int .i64 0, .int .i64 0, .int .i64 0, .int .i64 0, .int .i64 0, .int .i64 0, .int .i64 0, .int .i64 0, .int .i64 0, .int .i64 0, .int .i64 0, .int .i64 0, .int .i64 0, .int .i64 0, .int .i64 0, .int .i64 0, .int .i64 0, .int .i64 0, .int .i64 0, .int .i64 0, .int .i64 0, .slice none 0 0] 76)).heap[w.heap.size + 2]? = some (.cells #[.int .i64 0, .int .i64 0, .int .i64 0, .int .i64 0, .int .i64 0, .int .i64 0, .int .i64 0, .int .i64 0, .int .i64 0, .int .i64 0, .int .i64 0, .int .i64 0, .int .i64 0, .int .i64 0, .int .i64 0, .int .i64 0, .int .i64 0, .int .i64 0, .int .i64 0, .int .i64 0, .int .i64 0, .slice none 0 0] 76 (0, 0))) := by unfold Hid; rw [← s0]; exact heap_alloc_new W0 _
  have HST : Hid (∀ w3 : World, w3.heap[w.heap.size + 2]? = some (.cells (plV X (.slice none 0 0)) 76 (0, 0)) → (W0.alloc (.cells #[.int .i64 0, .int .i64 0, .int .i64 0, .int .i64 0, .int .i64 0, .int .i64 0, .int .i64 0, .int .i64 0, .int .i64 0, .int .i64 0, .int .i64 0, .int .i64 0, .int .i64 0, .int .i64 0, .int .i64 0, .int .i64 0, .int .i64 0, .int .i64 0, .int .i64 0, .int .i64 0, .int .i64 0, .slice none 0 0] 76)).grownBy w3 (some (w.heap.size + 2)) → Ep w w3 X (.slice none 0 0) (newGr 0 bw bh) [] ∧ w3.cell? ⟨w.heap.size, 4, none⟩ = some (.int .i64 (n : Int))) := by
    intro w3 hB3 g3
    have ga : W0.grownBy (W0.alloc (.cells #[.int .i64 0, .int .i64 0, .int .i64 0, .int .i64 0, .int .i64 0, .int .i64 0, .int .i64 0, .int .i64 0, .int .i64 0, .int .i64 0, .int .i64 0, .int .i64 0, .int .i64 0, .int .i64 0, .int .i64 0, .int .i64 0, .int .i64 0, .int .i64 0, .int .i64 0, .int .i64 0, .int .i64 0, .slice none 0 0] 76)) none := World.grownBy_alloc _ _ _
    have g03 : w.grownBy w3 none := grown_new (grown_trans (unhide HG0) ga) g3 (fun g e => by simp at e; omega)
    have x3 := grown_atT g3 (grown_atT ga (unhide B0) (by simp)) (by simp)
    refine ⟨⟨x3, grown_atT g3 (grown_atT ga (unhide B1) (by simp)) (by simp), hB3, OwG.nil _ _ _ _, List.nodup_nil, fun g hg => by simp at hg, g03⟩, ?_⟩
    rw [cell_of_row w3 _ 4 _ _ (0, 0) x3]
    exact unhide HX4
  clear hW0 b0 b1 G0 h4 hs hbd h1
  go_enter Try.func57, Try.ntmps57
  go_wp2_with (first | (rw [unhide HW]; refine load_row rfl 73 _ rfl w.heap.size rfl X 73 (unhide B0) _ Try.underlying73 rfl (by rw [unhide HSX]; kernel_rfl) ?_) | (refine build_pl rfl _ rfl X (unhide HSX) rfl ?_) | (refine store_row rfl 76 _ _ rfl (w.heap.size + 2) (by rw [← s0]; rfl) (plV X (.slice none 0 0)) rfl #[.int .i64 0, .int .i64 0, .int .i64 0, .int .i64 0, .int .i64 0, .int .i64 0, .int .i64 0, .int .i64 0, .int .i64 0, .int .i64 0, .int .i64 0, .int .i64 0, .int .i64 0, .int .i64 0, .int .i64 0, .int .i64 0, .int .i64 0, .int .i64 0, .int .i64 0, .int .i64 0, .int .i64 0, .slice none 0 0] 76 (unhide B2) (by rw [plV_size (unhide HSX)]; rfl) (by rw [plV_size (unhide HSX)]; kernel_rfl) (plV_one (unhide HX1) rfl) ?_; intro w3 hB3 g3; obtain ⟨hE, x4⟩ := unhide HST w3 hB3 g3; have HE := hide hE; clear hB3 g3 hE))
  clear HW B0 B1 B2 HST
  clear x4
  go_loopw [9] (fun iv wr => ∃ (i : Nat) (gv : Value) (F : List Nat), i ≤ n ∧ iv = .int .i64 i ∧ Hid (Ep w wr X gv (newGr i bw bh) F)) (fun iv _ => n - (intOf iv).toNat)
  case atStart => exact ⟨0, _, _, Nat.zero_le _, rfl, HE⟩
  case round =>
    clear HE
    obtain ⟨i, gv, F, hi, rfl, hep⟩ := hrel
    by_cases hlt : i < n
    · have hltI : (i : Int) < (n : Int) := by omega
      go_wp2
      refine wp_region_noPanic ?_
      have ep1 := (unhide hep).new (grown_drew (World.grownBy.refl wr none))
      refine wp_region_tailL 20 (fun W => W.heap[w.heap.size]? = some (.cells X 73 (0, 0)) ∧ W.heap[w.heap.size + 2]? = some (.cells (plV X gv) 76 (0, 0))) [true, true, true, true, false, false, false, false, false, false] (by kernel_rfl) (fun _ _ _ _ _ h => h) rfl (by decide) (by kernel_rfl) ⟨ep1.x, ep1.all⟩ ?_
      generalize wr.drew = w4 at *
      have E4 := hide ep1
      clear ep1 hep
      refine heldF_take (v := ?_) (Or.inl ⟨by rfl, ?_⟩) ?_
      rotate_left 1
      · intro w' hSw
        clear hSw
        go_simp
        try with_reducible rfl
      simp only [Act.put, List.setIfInBounds_toArray, List.set_cons_zero, List.set_cons_succ]
      refine heldF_take (v := ?_) (Or.inl ⟨by rfl, ?_⟩) ?_
      rotate_left 1
      · intro w' hSw
        have cg := (pl_grids (unhide HSX) hSw.2).1
        clear hSw
        go_simp
        try with_reducible rfl
      simp only [Act.put, List.setIfInBounds_toArray, List.set_cons_zero, List.set_cons_succ]
      refine heldF_take (v := .agg X) (Or.inl ⟨by rfl, ?_⟩) ?_
      · intro w' hSw
        exact exec_row 73 _ rfl w.heap.size rfl _ _ hSw.1 _ Try.underlying73 rfl (by rw [unhide HSX]; kernel_rfl)
      simp only [Act.put, List.setIfInBounds_toArray, List.set_cons_zero, List.set_cons_succ]
      refine heldF_take (v := ?_) (Or.inl ⟨by rfl, ?_⟩) ?_
      rotate_left 1
      · intro w' hSw
        clear hSw
        go_simp
        try with_reducible rfl
      simp only [Act.put, List.setIfInBounds_toArray, List.set_cons_zero, List.set_cons_succ]
      refine heldF_skip (heldF_skip (heldF_skip (heldF_skip (heldF_skip (heldF_skip (heldF_nil ?_))))))
      refine tailL_skip (tailL_skip (tailL_skip (tailL_skip ?_)))
      refine tailL_step (fun K hK => ?_)
      go_simp
      refine (unhide HB i hlt w4).mono ?_
      rintro e w5 ⟨rfl, g5⟩
      have E5 := hide ((unhide E4).new g5)
      refine hK.out _ _ (.inr ⟨(unhide E5).x, (unhide E5).all⟩) ?_
      clear hK K g5 E4
      try simp only [Act.put, List.setIfInBounds_toArray, List.set_cons_zero, List.set_cons_succ]
      refine tailL_step (fun K hK => ?_)
      go_simp
      refine (newGrid (bw i) (bh i) _ (unhide HBD i hlt).1 (unhide HBD i hlt).2 rfl w5).mono ?_
      rintro e w6 ⟨g, cap, rfl, t6, hlo6, g6⟩
      have E6 := hide ((unhide E5).new g6)
      refine hK.out _ _ (.inr ⟨(unhide E6).x, (unhide E6).all⟩) ?_
      have T6 := hide t6
      have hl5 := (unhide E5).size
      have HNF : Hid (g ∉ F) := fun hg => by have := okGr.lt _ _ _ _ (unhide E5).own g hg; omega
      clear hK K g6 E5 t6
      try simp only [Act.put, List.setIfInBounds_toArray, List.set_cons_zero, List.set_cons_succ]
      obtain ⟨m, HM⟩ : ∃ m, Hid (bw i * bh i = m) := ⟨_, rfl⟩
      rw [unhide HM] at T6 ⊢
      refine tailL_step (fun K hK => ?_)
      go_simp
      have E7 := hide ((unhide E6).new (World.grownBy_alloc w6 (.cells #[.int .i64 (bw i : Int), .int .i64 (bh i : Int), .slice (some ⟨g, 0, none⟩) m cap] 120) none))
      refine hK.out _ _ (.inr ⟨(unhide E7).x, (unhide E7).all⟩) ?_
      clear hK K E7
      try simp only [Act.put, List.setIfInBounds_toArray, List.set_cons_zero, List.set_cons_succ]
      refine tailL_step (fun K hK => ?_)
      refine step_append_rowsG GrP.ok Try.underlying74 (unhide HI) rfl (by decide) (by decide) rfl _ _ rfl gv (newGr i bw bh) F rfl (unhide E6).own (unhide E6).nd _ 1 (fun _ j => (#[.int .i64 (bw i : Int), .int .i64 (bh i : Int), .slice (some ⟨g, 0, none⟩) m cap] : Array Value).getD j undef) rfl [(bw i, bh i, List.replicate m noughts)] rfl [[g]] rfl (fun j hj => ?_) (by simp) (fun x hx => by simp at hx; subst hx; exact unhide HNF) (by intro u hu; simp at hu; rcases hu with rfl | rfl | rfl <;> rfl) w6.heap.size rfl rfl (by decide) (by rw [newGr_len]; omega) (newGr (i + 1) bw bh) (by rw [← unhide HM]; exact newGr_next bw bh i) ?_
      · have hj0 : j = 0 := by simpa using hj
        subst hj0
        exact ⟨g, cap, rfl, rfl, by rw [List.getElem_cons_zero, List.length_replicate]; rfl, unhide T6, rfl⟩
      intro v8 w8 F8 o8 n8 m8 g8
      have hne : ∀ x ∈ blk gv, w.heap.size + 3 ≤ x := fun x hx => (unhide E6).lo x ((unhide E6).own.head x hx)
      have hs6 := (unhide E6).size
      have x8 : w8.heap[w.heap.size]? = some (.cells X 73 (0, 0)) := (g8.block _ (by omega) (fun e => by have := hne _ e; omega)).trans (unhide E6).x
      have r8 : w8.heap[w.heap.size + 1]? = some (.cells #[.int .i64 0, .int .i64 0, .int .i64 0, .int .i64 0, .int .i64 0, .int .i64 0, .int .i64 0, .int .i64 0, .int .i64 0, .int .i64 0, .int .i64 0, .int .i64 0, .int .i64 0, .int .i64 0, .int .i64 0, .int .i64 0, .int .i64 0, .int .i64 0, .int .i64 0, .int .i64 0, .int .i64 0, .slice none 0 0] 76 (0, 0)) := (g8.block _ (by omega) (fun e => by have := hne _ e; omega)).trans (unhide E6).r
      have a8 : w8.heap[w.heap.size + 2]? = some (.cells (plV X gv) 76 (0, 0)) := (g8.block _ (by omega) (fun e => by have := hne _ e; omega)).trans (unhide E6).all
      have gw8 : w.grownBy w8 none := Wr.new (unhide E6).grown g8 (fun x hx => by have := hne x hx; omega)
      have l8 : ∀ x ∈ F8, w.heap.size + 3 ≤ x := fun x hx => by
        rcases m8 x hx with h | h | h
        · exact (unhide E6).lo x h
        · simp at h; omega
        · omega
      refine hK.out _ _ (.inr ⟨x8, a8⟩) ?_
      obtain ⟨vo8, vc8, rfl⟩ := o8.form
      have ep9 : Ep w (w8.setCell ⟨w.heap.size + 2, 21, none⟩ (.slice vo8 (newGr (i + 1) bw bh).length vc8)) X (.slice vo8 (newGr (i + 1) bw bh).length vc8) (newGr (i + 1) bw bh) F8 := by
        have gs := grown_set w8 (w.heap.size + 2) 21 (.slice vo8 (newGr (i + 1) bw bh).length vc8)
        refine ⟨grown_atT gs x8 (by simp), grown_atT gs r8 (by simp), pl_set (unhide HSX) a8 _, okGr.wr o8 (Wr.ofRow (F := [w.heap.size + 2]) gs (fun q e => by have e9 := Option.some.inj e; simp [e9])) (fun x hx e => by simp at e; have := l8 x hx; omega), n8, l8, grown_new gw8 gs (fun q e => by simp at e; omega)⟩
      have E9 := hide ep9
      obtain ⟨ca, fa⟩ := pl_grids (unhide HSX) a8
      have X8 := hide x8
      have A8 := hide a8
      clear hK K ep9 o8 n8 m8 g8 x8 r8 a8 E6 T6 HNF l8 gw8 hne
      obtain ⟨ln, HLN⟩ : ∃ ln, Hid ((newGr (i + 1) bw bh).length = ln) := ⟨_, rfl⟩
      rw [unhide HLN] at E9 ⊢
      try simp only [Act.put, List.setIfInBounds_toArray, List.set_cons_zero, List.set_cons_succ]
      refine tailL_step (fun K hK => ?_)
      go_simp
      refine hK.out _ _ (.inr ⟨unhide X8, unhide A8⟩) ?_
      clear hK K
      try simp only [Act.put, List.setIfInBounds_toArray, List.set_cons_zero, List.set_cons_succ]
      refine tailL_step (fun K hK => ?_)
      go_simp
      refine hK.out _ _ (.inl rfl) (tailL_nil (NoPanic.normal ?_))
      clear hK K ca fa X8 A8
      generalize w8.setCell ⟨w.heap.size + 2, 21, none⟩ (.slice vo8 ln vc8) = w9 at *
      go_wp2
      go_roundw
      case rel => exact ⟨i + 1, _, F8, by omega, by go_num, E9⟩
      case measure => simp [intOf]; omega
    · obtain rfl : i = n := by omega
      obtain ⟨vo, vc, rfl⟩ := (unhide hep).own.form
      have ha := (unhide hep).all
      have hr := (unhide hep).r
      have hsz := (unhide hep).size
      go_wp2_with (first | (refine load_row rfl 76 _ rfl (w.heap.size + 2) rfl (plV X (.slice vo (newGr i bw bh).length vc)) 76 ha _ Try.underlying76 rfl (by rw [plV_size (unhide HSX)]; kernel_rfl) ?_) | (refine store_row rfl 76 _ _ rfl (w.heap.size + 1) rfl (plV X (.slice vo (newGr i bw bh).length vc)) rfl #[.int .i64 0, .int .i64 0, .int .i64 0, .int .i64 0, .int .i64 0, .int .i64 0, .int .i64 0, .int .i64 0, .int .i64 0, .int .i64 0, .int .i64 0, .int .i64 0, .int .i64 0, .int .i64 0, .int .i64 0, .int .i64 0, .int .i64 0, .int .i64 0, .int .i64 0, .int .i64 0, .int .i64 0, .slice none 0 0] 76 hr (by rw [plV_size (unhide HSX)]; rfl) (by rw [plV_size (unhide HSX)]; kernel_rfl) (plV_one (unhide HX1) rfl) ?_; intro w9 hB9 g9))
      refine bodyPost_ret (v := .agg (plV X (.slice vo (newGr i bw bh).length vc))) ?_ rfl ⟨_, F, rfl, ?_, (unhide hep).nd, fun x hx => by have := (unhide hep).lo x hx; omega, ?_⟩
      · rw [results_c1 rfl]
        exact run_loadVar_row w9 _ 76 76 _ (0, 0) _ hB9 Try.underlying76 rfl (by rw [plV_size (unhide HSX)]; kernel_rfl)
      · exact okGr.wr (unhide hep).own (Wr.ofRow (F := [w.heap.size + 1]) g9 (fun q e => by have e9 := Option.some.inj e; simp [e9])) (fun x hx e => by simp at e; have := (unhide hep).lo x hx; omega)
      · exact grown_new (unhide hep).grown g9 (fun q e => by simp at e; omega)

end Go.Proofs.Ytibgldanmhckiaa
