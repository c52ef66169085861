/-
  Numbers that are drawn for classes and bits.
-/
import Derived.Test.YtmomfopbdpgcgaaCurOnce
import Derived.Test.YtmomfopbdpgcgaaCurOdd
namespace Go.Proofs.Ytmomfopbdpgcgaa
open Go.RowKit

set_option maxRecDepth 20000 in
set_option maxHeartbeats 1600000 in
theorem drawClassOf (ao : Option Addr) (n cap : Nat) (zs : List Int) (w : World) (hr : Rd .u8 w ao n zs) (hb : ∀ i, 0 ≤ zs.getD i 0 ∧ zs.getD i 0 ≤ 255) (hn : n ≤ 1048576) :
    Calls Try.prog 10 #[.slice ao n cap] w fun e w' => ∃ x : Int, e = .returned (.int .i64 x) ∧ w.grownBy w' none := by
  have HR := hide hr
  have HB := hide hb
  clear hr hb
  go_enter Try.func10, Try.ntmps10
  go_wp2_with fail
  refine (open_of ao n cap zs w (unhide HR) (unhide HB) hn).mono ?_
  rintro e w1 ⟨rfl, c1, g1⟩
  have hs1 := g1.size
  have G1 := hide g1
  have C1 := hide c1
  clear c1 g1
  go_wp2_with fail
  refine (once_of w.heap.size ao n cap 0 5 zs w1 (unhide C1) (by omega) (by omega) (by omega)).mono ?_
  rintro e w2 ⟨t, q2, rfl, c2, hq2, g2⟩
  have HG2 : Hid (w.grownBy w2 none) := grown_new (unhide G1) g2 (fun g e => by simp at e; omega)
  have C2 := hide c2
  clear c2 g2 C1 G1
  cases t with
  | true =>
    go_wp2_with fail
    refine (odd_of w.heap.size ao n cap q2 zs w2 (unhide C2) (by omega)).mono ?_
    rintro e w7 ⟨y, q7, rfl, c7, hq7, g7⟩
    have HG7 : Hid (w.grownBy w7 none) := grown_new (unhide HG2) g7 (fun g e => by simp at e; omega)
    have hlt7 := c7.lt
    obtain ⟨w8, hw8⟩ : ∃ w8, w7.alloc (.cells #[.int .i64 32767, .int .i64 (-32767), .int .i64 32768, .int .i64 y] 3) = w8 := ⟨_, rfl⟩
    have g8 : w7.grownBy w8 none := by rw [← hw8]; exact grown_alloc (World.grownBy.refl _ _) _
    have hL8 : w8.heap[w7.heap.size]? = some (.cells #[.int .i64 32767, .int .i64 (-32767), .int .i64 32768, .int .i64 y] 3 (0, 0)) := by rw [← hw8]; exact heap_alloc_new _ _
    have HW8 := hide hw8
    have C8 := hide (c7.grown g8)
    have HG8 := hide (grown_trans (unhide HG7) g8)
    clear hw8 c7 g7 g8 C2 HG2 HG7
    go_wp2_with fail
    rw [unhide HW8]
    refine (pick_of w.heap.size ao n cap q7 4 zs w8 (unhide C8) (by omega) (by omega) (by omega)).mono ?_
    rintro e w9 ⟨x9, q9, rfl, hx90, hx91, c9, hq9, g9⟩
    obtain ⟨i9, rfl⟩ := Int.eq_ofNat_of_zero_le hx90
    have hL9 := (g9.block w7.heap.size (Array.getElem?_eq_some_iff.1 hL8).1 (by simp; omega)).trans hL8
    obtain ⟨y9, hy9⟩ : ∃ y9 : Int, w9.cell? ⟨w7.heap.size, i9, none⟩ = some (.int .i64 y9) := by
      rw [cell_of_row w9 _ i9 _ _ (0, 0) hL9]
      have : i9 = 0 ∨ i9 = 1 ∨ i9 = 2 ∨ i9 = 3 := by omega
      rcases this with rfl | rfl | rfl | rfl <;> exact ⟨_, rfl⟩
    have HG9 : Hid (w.grownBy w9 none) := grown_new (unhide HG8) g9 (fun g e => by simp at e; omega)
    clear c9 g9 hL8 hL9 HG8 C8 HW8
    go_wp2
    go_ret
    exact ⟨y9, rfl, unhide HG9⟩
  | false =>
    go_wp2_with fail
    refine (pick_of w.heap.size ao n cap q2 4001 zs w2 (unhide C2) (by omega) (by omega) (by omega)).mono ?_
    rintro e w7 ⟨x, q7, rfl, hx0, hx1, c7, hq7, g7⟩
    have HG7 : Hid (w.grownBy w7 none) := grown_new (unhide HG2) g7 (fun g e => by simp at e; omega)
    clear c7 g7 C2 HG2
    go_wp2
    go_ret
    exact ⟨_, rfl, unhide HG7⟩

end Go.Proofs.Ytmomfopbdpgcgaa
