/-
  The walk of what draws bytes from a code.
-/
import Derived.Test.YticecjodbhhcfaaDoorSame
import Derived.Test.YticecjodbhhcfaaDoorCur
namespace Go.Proofs.YticecjodbhhcfaaDoor
open Go.RowKit

set_option maxHeartbeats 1600000 in
theorem drawBytes (tb : Nat) (ao : Option Addr) (n cap p k : Nat) (zs : List Int) (w : World) (h : Cur w tb ao n cap zs p) (hp : p ≤ 1000000) (hk : 1 ≤ k) (hk3 : k ≤ 100000) :
    Calls Tryd.prog 31 #[.pointer (some ⟨tb, 0, none⟩), .int .i64 k] w fun e w' => ∃ (bs : List Int) (bo : Option Addr) (bc : Nat) (p' : Nat), e = .returned (.slice bo bs.length bc) ∧ bs.length ≤ k ∧ (∀ x ∈ bs, 0 ≤ x ∧ x ≤ 255) ∧
      w'.ownsRow w.heap.size 5 1 (.slice bo bs.length bc) bs.length (bs.map (Value.int .u8)) ∧ Cur w' tb ao n cap zs p' ∧ p' ≤ p + 2 + 6 * k ∧ w.grownBy w' (some tb) := by
  obtain ⟨i0, hi, hz0, hz1, hz2⟩ := info_parts Tryd.info5
  have htb := h.lt
  have hcode : 0 < n → ∀ b off, ao = some ⟨b, off, none⟩ → b < w.heap.size := h.rd.lt
  have o0 : (w.alloc (.cells #[] 5)).ownsRow w.heap.size 5 1 (.slice (some ⟨w.heap.size, 0, none⟩) 0 0) 0 [] := World.ownsRow_lit w #[] 0 (Nat.le_refl _) (by unfold maxLen; omega) rfl
  have h0 := h.grown (World.grownBy_alloc w (.cells #[] 5) none)
  have g0 : Hid (w.grownBy (w.alloc (.cells #[] 5)) (some tb)) := World.grownBy_alloc _ _ _
  have HC := hide hcode
  clear h hcode
  go_enter Tryd.func31, Tryd.ntmps31
  go_wp2_with fail
  refine (size_of tb ao n cap p k zs _ h0 (by omega) (by omega) (by omega)).mono ?_
  rintro e w1 ⟨x, p1, rfl, hx0, hx1, h1, hp1, g1⟩
  obtain ⟨m, rfl⟩ := Int.eq_ofNat_of_zero_le hx0
  have o1 : w1.ownsRow w.heap.size 5 1 (.slice (some ⟨w.heap.size, 0, none⟩) 0 0) 0 [] := own_beneath o0 g1 (fun g g' h h' => by have := (o0.lt g h).1; simp at h'; omega)
  have G1 := grown_trans (unhide g0) g1
  clear o0 h0 g1 g0
  go_wp2
  go_loopw [5, 6] (fun v i wr => ∃ (acc : List Int) (j q : Nat), i = .int .i64 j ∧ acc.length + j = m ∧ q ≤ p + 2 + 6 * acc.length ∧ (∀ x ∈ acc, 0 ≤ x ∧ x ≤ 255) ∧ Cur wr tb ao n cap zs q ∧ wr.ownsRow w.heap.size 5 1 v acc.length (acc.map (Value.int .u8)) ∧ w.grownBy wr (some tb)) (fun _ i _ => (intOf i).toNat)
  case atStart => exact ⟨[], m, p1, rfl, by simp, by simpa using hp1, by simp, h1, o1, G1⟩
  case round =>
    obtain ⟨acc, j, q, rfl, hj, hq, hby, hcu, hok, hgk⟩ := hrel
    clear o1 G1 h1
    by_cases hlt : 0 < j
    · have hd : decide ((0 : Int) < (j : Int)) = true := by simp; omega
      have hal : acc.length ≤ k := by omega
      have hjk : j ≤ 100000 := by omega
      have HJ := hide hj
      clear hj
      go_wp2_with fail
      refine (pick_of tb ao n cap q 256 zs wr hcu (by omega) (by omega) (by omega)).mono ?_
      rintro e w2 ⟨x1, p2, rfl, hx10, hx11, hc2, hp2, g2⟩
      have ok2 := own_beneath hok g2 (fun g g' h h' => by have := (hok.lt g h).1; simp at h'; omega)
      have G2 := grown_trans hgk g2
      clear hcu hok hgk g2
      go_wp2_with fail
      refine (pick_of tb ao n cap p2 256 zs w2 hc2 (by omega) (by omega) (by omega)).mono ?_
      rintro e w3 ⟨x2, p3, rfl, hx20, hx21, hc3, hp3, g3⟩
      have ok3 := own_beneath ok2 g3 (fun g g' h h' => by have := (ok2.lt g h).1; simp at h'; omega)
      have G3 := grown_trans G2 g3
      clear hc2 ok2 G2 g3
      go_wp2_with fail
      have hc4 := hc3.grown (World.grownBy_alloc w3 (.cells #[.int .u8 x1, .int .u8 255, .int .u8 0, .int .u8 1, .int .u8 x2] 5) none)
      refine (pick_of tb ao n cap p3 5 zs _ (by exact hc4) (by omega) (by omega) (by omega)).mono ?_
      rintro e w4 ⟨x3, p4, rfl, hx30, hx31, hc5, hp4, g4⟩
      obtain ⟨i, rfl⟩ := Int.eq_ofNat_of_zero_le hx30
      have hi5 : i < 5 := by omega
      have ok4 := own_beneath (ok3.alloc (.cells #[.int .u8 x1, .int .u8 255, .int .u8 0, .int .u8 1, .int .u8 x2] 5)) g4 (fun g g' h h' => by have := (ok3.lt g h).1; simp at h'; omega)
      have G4 := grown_trans (grown_trans G3 (World.grownBy_alloc _ _ _)) g4
      have hsz3 : w.heap.size ≤ w3.heap.size := G3.size
      have hblk : w4.heap[w3.heap.size]? = some (.cells #[.int .u8 x1, .int .u8 255, .int .u8 0, .int .u8 1, .int .u8 x2] 5 (0, 0)) :=
        (g4.block w3.heap.size (by simp) (by simp; omega)).trans (heap_alloc_new w3 _)
      obtain ⟨y, hy0, hy1, hcell⟩ : ∃ y, 0 ≤ y ∧ y ≤ 255 ∧ w4.cell? ⟨w3.heap.size, i, none⟩ = some (.int .u8 y) := by
        have h5 : i = 0 ∨ i = 1 ∨ i = 2 ∨ i = 3 ∨ i = 4 := by omega
        rcases h5 with rfl | rfl | rfl | rfl | rfl
        · exact ⟨x1, by omega, by omega, by rw [cell_of_row w4 _ 0 _ _ (0, 0) hblk]; rfl⟩
        · exact ⟨255, by omega, by omega, by rw [cell_of_row w4 _ 1 _ _ (0, 0) hblk]; rfl⟩
        · exact ⟨0, by omega, by omega, by rw [cell_of_row w4 _ 2 _ _ (0, 0) hblk]; rfl⟩
        · exact ⟨1, by omega, by omega, by rw [cell_of_row w4 _ 3 _ _ (0, 0) hblk]; rfl⟩
        · exact ⟨x2, by omega, by omega, by rw [cell_of_row w4 _ 4 _ _ (0, 0) hblk]; rfl⟩
      clear hc3 hc4 ok3 G3 g4 hblk hx30
      go_wp2_with (at_builtin; refine wpList_append_own _ rfl _ _ 22 rfl w.heap.size 5 i0 (.int .u8 0) 1 1 Tryd.underlying22 hi hz0 hz1 hz2 rfl (by decide) _ _ _ rfl (ok4.alloc _) ⟨w4.heap.size, 0, none⟩ 1 1 [.int .u8 y] rfl rfl (cell_one_new _ _ _) ?d2 ?d3 ?d4 ?d5 ?_)
      case d2 => first | rfl | (intro u hu; simp at hu; subst hu; rfl)
      case d3 => unfold maxLen; omega
      case d4 => omega
      case d5 => have := G4.size; simp; omega
      intro v' w5 hown' hgrow _
      have hrow : ∀ g, Value.ownBlock _ = some g → w.heap.size ≤ g := fun g e => (ok4.lt g e).1
      have hc6 := (hc5.grown (World.grownBy_alloc w4 (.cells #[.int .u8 y] 5) none)).beside hgrow (fun g e => by
        have := hrow g e
        exact ⟨by omega, fun h b off e' => by have := unhide HC h b off e'; omega⟩)
      have G5 : w.grownBy w5 (some tb) := ⟨hgrow.os.trans G4.os, hgrow.tape.trans G4.tape, hgrow.output.trans G4.output, Nat.le_trans G4.size (Nat.le_trans (by simp) hgrow.size), fun b hb hr =>
        (hgrow.block b (by have := G4.size; simp; omega) (fun e => by have := hrow b e.symm; omega)).trans ((Below.heap_alloc _ _ _ (by have := G4.size; omega)).trans (G4.block b hb hr))⟩
      have hR : w5.ownsRow w.heap.size 5 1 v' (acc ++ [y]).length ((acc ++ [y]).map (Value.int .u8)) := by
        rw [List.length_append, List.map_append]; exact hown'
      have hby2 : Hid (∀ x ∈ acc ++ [y], 0 ≤ x ∧ x ≤ 255) := by
        intro x hx
        rcases List.mem_append.1 hx with h | h
        · exact hby x h
        · simp at h; subst h; exact ⟨hy0, hy1⟩
      clear hown' hgrow ok4 G4 hc5 hrow hby hcell
      go_wp2
      go_roundw
      case rel => exact ⟨acc ++ [y], j - 1, p4, by go_num, by have := unhide HJ; simp; omega, by simp; omega, unhide hby2, hc6, hR, G5⟩
      case measure => simp [intOf]; omega
    · obtain rfl : j = 0 := by omega
      obtain ⟨bo, bc, rfl⟩ := own_form hok
      have HBY := hide hby
      clear hby
      go_wp2
      go_ret
      exact ⟨acc, bo, bc, q, rfl, by omega, unhide HBY, hok, hcu, by omega, hgk⟩

end Go.Proofs.YticecjodbhhcfaaDoor
