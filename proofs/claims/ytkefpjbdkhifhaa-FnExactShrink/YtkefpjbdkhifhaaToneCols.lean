/-
  Sums of columns in the program (written by gen_tone4.py).
-/
import Derived.Test.YtkefpjbdkhifhaaToneMean
namespace Go.Proofs.Ytkefpjbdkhifhaa
open Go.RowKit

/-- Columns' sums while a row is added: the first c columns have it. -/
def colsMix (L : List Int) (w r0 R c : Nat) : List Int := (List.range w).map fun x => colS L w r0 x (if x < c then R + 1 else R)
theorem colsMix_zero (L : List Int) (w r0 R : Nat) : colsMix L w r0 R 0 = colsL L w r0 R := by simp [colsMix, colsL]
theorem colsMix_len (L : List Int) (w r0 R c : Nat) : (colsMix L w r0 R c).length = w := by simp [colsMix]
theorem colsMix_at (L : List Int) (w r0 R c : Nat) (hc : c < w) : (colsMix L w r0 R c).getD c 0 = colS L w r0 c R := by simp [colsMix, hc]
theorem colsMix_all (L : List Int) (w r0 R : Nat) : colsMix L w r0 R w = colsL L w r0 (R + 1) := by
  unfold colsMix colsL
  refine List.map_congr_left (fun x hx => ?_)
  rw [if_pos (List.mem_range.1 hx)]
theorem colsMix_set (L : List Int) (w r0 R c : Nat) (z : Int) (hz : colS L w r0 c R + L.getD ((r0 + R) * w + c) 0 = z) : (colsMix L w r0 R c).set c z = colsMix L w r0 R (c + 1) := by
  subst hz
  refine List.ext_getElem (by simp [colsMix]) (fun i h1 h2 => ?_)
  rw [List.getElem_set]
  have hi : i < w := by simpa [colsMix] using h2
  by_cases e : c = i
  · subst e
    simp [colsMix, colS]
  · rw [if_neg e]
    simp only [colsMix, List.getElem_map, List.getElem_range]
    by_cases h : i < c
    · rw [if_pos h, if_pos (by omega)]
    · rw [if_neg h, if_neg (by omega)]

set_option maxRecDepth 20000 in
set_option maxHeartbeats 3200000 in
theorem columnSums (wd ht g n r0 r1 R : Nat) (L : List Int) (W : World) (hw : 1 ≤ wd ∧ wd ≤ 1024) (hh : ht ≤ 1024) (HN : Hid (wd * ht = n)) (hr : r0 ≤ r1 ∧ r1 ≤ ht) (HR : Hid (r1 - r0 = R)) (hB : Blk .u16 73 W g L) (hL : L.length = n) (h0 : ∀ i, 0 ≤ L.getD i 0 ∧ L.getD i 0 ≤ 4095) :
    Calls Try.prog 76 #[.agg #[.int .i64 (wd : Int), .int .i64 (ht : Int), .slice (some ⟨g, 0, none⟩) n n], .agg #[.int .i64 (r0 : Int), .int .i64 (r1 : Int)]] W fun e W' => ∃ gs, e = .returned (.slice (some ⟨gs, 0, none⟩) wd wd) ∧ Blk .i64 3 W' gs (colsL L wd r0 R) ∧ W.heap.size ≤ gs ∧ W.grownBy W' none := by
  have HL := hide hL
  have H0 := hide h0
  have HGL : Hid (g < W.heap.size) := hB.lt
  obtain ⟨i0, hi, hz0, hz1, hz2⟩ := info_parts info_iS
  have HI := hide hi
  have HZ0 := hide hz0
  have HZ1 := hide hz1
  have HZ2 := hide hz2
  obtain ⟨W0, hW0⟩ : ∃ W0, (W.alloc (.cells #[.int .i64 (wd : Int), .int .i64 (ht : Int), .slice (some ⟨g, 0, none⟩) n n] 57)).alloc (.cells #[.int .i64 (r0 : Int), .int .i64 (r1 : Int)] 86) = W0 := ⟨_, rfl⟩
  have HG0 : Hid (W.grownBy W0 none) := by rw [← hW0]; exact grown_alloc (World.grownBy_alloc _ _ _) _
  have b0 : Hid (W0.heap[W.heap.size]? = some (.cells #[.int .i64 (wd : Int), .int .i64 (ht : Int), .slice (some ⟨g, 0, none⟩) n n] 57 (0, 0))) := by rw [← hW0, Below.heap_alloc _ _ _ (by simp)]; exact heap_alloc_new W _
  have b1 : Hid (W0.heap[W.heap.size + 1]? = some (.cells #[.int .i64 (r0 : Int), .int .i64 (r1 : Int)] 86 (0, 0))) := by
    rw [← hW0]
    have := heap_alloc_new (W.alloc (.cells #[.int .i64 (wd : Int), .int .i64 (ht : Int), .slice (some ⟨g, 0, none⟩) n n] 57)) (.cells #[.int .i64 (r0 : Int), .int .i64 (r1 : Int)] 86)
    unfold Hid
    simpa using this
  have HS0 : Hid (W0.heap.size = W.heap.size + 2) := by rw [← hW0]; simp [Hid]
  have HB0 := hide (hB.grown (unhide HG0))
  have HW := hide hW0
  clear hW0 hB hL h0 hi hz0 hz1 hz2
  generalize hs : W.heap.size = s at *
  have HS := hide hs
  go_enter Try.func76, Try.ntmps76
  have HWR : Hid (((W.alloc (.cells #[.int .i64 (wd : Int), .int .i64 (ht : Int), .slice (some ⟨g, 0, none⟩) n n] 57)).alloc (.cells #[.int .i64 (r0 : Int), .int .i64 (r1 : Int)] 86)) = W0) := HW
  go_wp2_with (at_make; refine wpList_make_full _ rfl _ _ 24 rfl s 3 i0 (.int .i64 0) 1 Try.underlying24 (unhide HI) (unhide HZ0) (unhide HZ1) .i64 .i64 _ _ wd rfl rfl rfl rfl (by rw [unhide HZ2]; omega) (by unfold maxLen; omega) (by simp; omega) ?_)
  rw [unhide HWR]
  intro w2 hown g2
  have HC2 : Hid (Blk .i64 3 w2 (s + 1 + 1) (List.replicate wd 0)) := Blk.made (by rw [Nat.mul_one]; exact hown)
  have G2 := hide g2
  clear hown g2 HW HWR hs
  generalize hgs : s + 1 + 1 = gs at *
  have HGS : Hid (gs = s + 2) := by unfold Hid; omega
  have c0 : W0.cell? ⟨s + 1, 0, none⟩ = some (.int .i64 (r0 : Int)) := by rw [cell_of_row W0 _ 0 _ _ (0, 0) (unhide b1)]; rfl
  have c1 : W0.cell? ⟨s + 1, 1, none⟩ = some (.int .i64 (r1 : Int)) := by rw [cell_of_row W0 _ 1 _ _ (0, 0) (unhide b1)]; rfl
  have d0 := (unhide G2).cell c0 (by simp)
  have d1 := (unhide G2).cell c1 (by simp)
  have HSTART : Hid (Blk .i64 3 w2 gs (colsL L wd r0 0)) := by rw [colsL_zero]; exact unhide HC2
  clear HC2 hgs
  go_wp2
  go_loopw [6] (fun rv wr => ∃ (j : Nat), j ≤ R ∧ rv = .int .i64 ((r0 + j : Nat) : Int) ∧ Hid (Blk .i64 3 wr gs (colsL L wd r0 j)) ∧ Hid (w2.grownBy wr (some gs))) (fun rv _ => r1 - (intOf rv).toNat)
  case atStart => exact ⟨0, by omega, by simp, HSTART, World.grownBy.refl _ _⟩
  case round =>
    clear HSTART
    obtain ⟨j, hj, rfl, HQR, HGR⟩ := hrel
    have y1 := grown_atG (unhide HGR) (grown_atG (unhide G2) (unhide b1) (by simp)) (by have := unhide HGS; simp; omega)
    have cy : wr.cell? ⟨s + 1, 1, none⟩ = some (.int .i64 (r1 : Int)) := by rw [cell_of_row wr _ 1 _ _ (0, 0) y1]; rfl
    obtain ⟨rr, HRR⟩ : ∃ x : Nat, Hid (r0 + j = x) := ⟨_, rfl⟩
    rw [unhide HRR]
    clear y1
    by_cases hlt : rr < r1
    · have hrI : (rr : Int) < (r1 : Int) := by omega
      have e1 := i64_in ((rr : Int) + 1) (by omega)
      obtain ⟨lo, HLO⟩ : ∃ lo : Nat, Hid (rr * wd = lo) := ⟨_, rfl⟩
      have hlx := row_end (w := wd) (show rr < ht by omega)
      rw [Nat.mul_comm ht wd, unhide HLO, unhide HN] at hlx
      have y0 := grown_atG (unhide HGR) (grown_atG (unhide G2) (unhide b0) (by simp)) (by have := unhide HGS; simp; omega)
      have x0 : wr.cell? ⟨s, 0, none⟩ = some (.int .i64 (wd : Int)) := by rw [cell_of_row wr _ 0 _ _ (0, 0) y0]; rfl
      have x1 : wr.cell? ⟨s, 1, none⟩ = some (.int .i64 (ht : Int)) := by rw [cell_of_row wr _ 1 _ _ (0, 0) y0]; rfl
      have x2 : wr.cell? ⟨s, 2, none⟩ = some (.slice (some ⟨g, 0, none⟩) n n) := by rw [cell_of_row wr _ 2 _ _ (0, 0) y0]; rfl
      clear y0
      go_wp2_with fail
      refine (toneRow wd ht g n rr lo hw hh (by omega) HN HLO wr).mono ?_
      rintro e w4 ⟨rfl, g4⟩
      have HQ4 : Hid (Blk .i64 3 w4 gs (colsMix L wd r0 j 0)) := by rw [colsMix_zero]; exact (unhide HQR).grown g4
      have HG4 := hide (grown_trans (unhide HGR) (grown_any g4))
      clear g4 x0 x1 x2 cy
      go_wp2
      go_loopw [27] (fun cv wx => ∃ (c : Nat), c ≤ wd ∧ cv = .int .i64 c ∧ Hid (Blk .i64 3 wx gs (colsMix L wd r0 j c)) ∧ Hid (w2.grownBy wx (some gs))) (fun cv _ => wd - (intOf cv).toNat)
      case atStart => exact ⟨0, by omega, by go_num, HQ4, HG4⟩
      case round =>
        clear HQ4 HG4 HQR HGR
        obtain ⟨c, hc, rfl, HQX, HGX⟩ := hrel
        by_cases hcl : c < wd
        · have hcI : (c : Int) < (wd : Int) := by omega
          have f1 := i64_in ((c : Int) + 1) (by omega)
          obtain ⟨z, HZ⟩ : ∃ z, Hid (L.getD (lo + c) 0 = z) := ⟨_, rfl⟩
          obtain ⟨v, HV⟩ : ∃ v, Hid (colS L wd r0 c j = v) := ⟨_, rfl⟩
          have hz := unhide H0 (lo + c)
          have hv := colS_in (w := wd) (r0 := r0) (x := c) (unhide H0) j
          rw [unhide HZ] at hz
          rw [unhide HV] at hv
          have hjR : j ≤ 1024 := by have := unhide HR; omega
          have HBX := ((unhide HB0).grown (unhide G2)).beside (unhide HGX) (by have := unhide HGL; have := unhide HGS; simp; omega)
          have ck := HBX.cell (lo + c) (by have := unhide HL; omega)
          rw [unhide HZ] at ck
          have cq := (unhide HQX).cell c (by rw [colsMix_len]; exact hcl)
          rw [colsMix_at _ _ _ _ _ hcl, unhide HV] at cq
          have fq := (unhide HQX).frozen c
          have f2 := i64_in z (by omega)
          have f3 := i64_in (v + z) (by omega)
          have HQ' : Hid (Blk .i64 3 (wr.setCell ⟨gs, c, none⟩ (.int .i64 (v + z))) gs (colsMix L wd r0 j (c + 1))) := by
            unfold Hid
            rw [← colsMix_set L wd r0 j c (v + z) (by rw [unhide HV, unhide HRR, unhide HLO, unhide HZ])]
            exact (unhide HQX).set c (v + z)
          have HG' := hide (grown_trans (unhide HGX) (grown_set wr gs c (.int .i64 (v + z))))
          clear HBX hv hz
          go_wp2
          go_roundw
          case rel => exact ⟨c + 1, by omega, by go_num, HQ', HG'⟩
          case measure => simp [intOf]; omega
        · obtain rfl : wd = c := by omega
          have hcd : decide ((wd : Int) < (wd : Int)) = false := decide_eq_false (by omega)
          have HQN : Hid (Blk .i64 3 wr gs (colsL L wd r0 (j + 1))) := by rw [← colsMix_all]; exact unhide HQX
          have hrn : ((rr : Int) + 1) = ((r0 + (j + 1) : Nat) : Int) := by have := unhide HRR; omega
          have HRN := hide hrn
          clear hrn
          go_wp2
          go_roundw
          case rel => exact ⟨j + 1, by have := unhide HR; have := unhide HRR; omega, by rw [unhide HRN], HQN, HGX⟩
          case measure => simp [intOf]; omega
    · have hjR : j = R := by have := unhide HR; have := unhide HRR; omega
      have hrd : decide ((rr : Int) < (r1 : Int)) = false := decide_eq_false (by omega)
      rw [hjR] at HQR
      clear hjR
      go_wp2
      go_ret
      refine ⟨gs, rfl, unhide HQR, by have := unhide HGS; omega, ?_⟩
      exact grown_new (grown_trans (unhide HG0) (unhide G2)) (unhide HGR) (fun k e => by simp at e; have := unhide HGS; have := unhide HS; omega)

end Go.Proofs.Ytkefpjbdkhifhaa
