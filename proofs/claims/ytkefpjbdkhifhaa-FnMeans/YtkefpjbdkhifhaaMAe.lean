/-
  ToneShrink, RangeOwn, Spots, SpotNum, RangeStop, ToneGrow, GiveSamp, MeanSpec.
-/
import Derived.RangeFuncNested
import Derived.RangeFuncBound
import Derived.RangeFuncCalls
import Derived.RangeFuncLeaves
import Derived.Shelf.Abstract
import Derived.WalkKit
import Derived.OwnWalkIn
import Derived.TacticsInMore
import Derived.LoopNIn
import Derived.LoopIn
import Derived.Shelf.RegionOpen
import Derived.OrdersIn
import Derived.Test.YtkefpjbdkhifhaaMAd

namespace Go.Proofs.Ytkefpjbdkhifhaa
open Go.RowKit

set_option maxRecDepth 20000 in
set_option maxHeartbeats 6400000 in
theorem shrunk : TurnC 46 (fun wd ht nw nh => nw ≤ wd ∧ nh ≤ ht) (fun L wd ht nw nh => shrinkL L wd ht nw nh) := by
  intro wd ht g n nw nh m L W hw hh HN hn hnw hnh HM hm hok hB hL h0
  have HL := hide hL
  have H0 := hide h0
  have HOK := hide hok
  have HGL : Hid (g < W.heap.size) := hB.lt
  obtain ⟨W0, hW0⟩ : ∃ W0, ((W.alloc (.cells #[.int .i64 (wd : Int), .int .i64 (ht : Int), .slice (some ⟨g, 0, none⟩) n n] 57)).alloc (.cells #[.int .i64 (nw : Int), .int .i64 (nh : Int)] 48)).alloc (.cells #[.int .i64 0, .int .i64 0, .slice none 0 0] 57) = W0 := ⟨_, rfl⟩
  have HG0 : Hid (W.grownBy W0 none) := by rw [← hW0]; exact grown_alloc (grown_alloc (World.grownBy_alloc _ _ _) _) _
  have b0 : Hid (W0.heap[W.heap.size]? = some (.cells #[.int .i64 (wd : Int), .int .i64 (ht : Int), .slice (some ⟨g, 0, none⟩) n n] 57 (0, 0))) := by rw [← hW0, Below.heap_alloc _ _ _ (by simp <;> omega), Below.heap_alloc _ _ _ (by simp)]; exact heap_alloc_new W _
  have b1 : Hid (W0.heap[W.heap.size + 1]? = some (.cells #[.int .i64 (nw : Int), .int .i64 (nh : Int)] 48 (0, 0))) := by
    rw [← hW0, Below.heap_alloc _ _ _ (by simp)]
    have := heap_alloc_new (W.alloc (.cells #[.int .i64 (wd : Int), .int .i64 (ht : Int), .slice (some ⟨g, 0, none⟩) n n] 57)) (.cells #[.int .i64 (nw : Int), .int .i64 (nh : Int)] 48)
    unfold Hid
    simpa using this
  have b2 : Hid (W0.heap[W.heap.size + 1 + 1]? = some (.cells #[.int .i64 0, .int .i64 0, .slice none 0 0] 57 (0, 0))) := by
    rw [← hW0]
    have := heap_alloc_new ((W.alloc (.cells #[.int .i64 (wd : Int), .int .i64 (ht : Int), .slice (some ⟨g, 0, none⟩) n n] 57)).alloc (.cells #[.int .i64 (nw : Int), .int .i64 (nh : Int)] 48)) (.cells #[.int .i64 0, .int .i64 0, .slice none 0 0] 57)
    unfold Hid
    simpa using this
  have HS0 : Hid (W0.heap.size = W.heap.size + 3) := by rw [← hW0]; simp [Hid]
  have HB0 := hide (hB.grown (unhide HG0))
  have HW := hide hW0
  obtain ⟨X, HX⟩ : ∃ X, Hid (shrinkL L wd ht nw nh = X) := ⟨_, rfl⟩
  have HXL : Hid (X.length = m) := by unfold Hid; rw [← unhide HX, ← unhide HM]; exact gridL_len _ _ _
  dsimp only
  rw [unhide HX]
  clear hW0 hB hL h0 hok
  go_enter Try.func46, Try.ntmps46
  go_wp2_with fail
  rw [unhide HW]
  refine (newTones nw nh m hnw.2 hnh.2 HM W0).mono ?_
  rintro e w1 ⟨q, rfl, hQ, hge, g1⟩
  have HQL : Hid (q < w1.heap.size) := hQ.lt
  have HGE := hide hge
  obtain ⟨W1, hW1⟩ : ∃ W1, w1.alloc (.cells #[.int .i64 (nw : Int), .int .i64 (nh : Int), .slice (some ⟨q, 0, none⟩) m m] 57) = W1 := ⟨_, rfl⟩
  have G1 : Hid (W0.grownBy W1 none) := by rw [← hW1]; exact grown_alloc g1 _
  have HQ1 : Hid (Blk .u16 73 W1 q (laidTo X 0)) := by rw [← hW1, laidTo_zero, unhide HXL]; exact hQ.grown (World.grownBy_alloc _ _ _)
  have HB1 := hide ((unhide HB0).grown (unhide G1))
  have p0 := hide (grown_atG (unhide G1) (unhide b0) (by simp))
  have p1 := hide (grown_atG (unhide G1) (unhide b1) (by simp))
  have p2 := hide (grown_atG (unhide G1) (unhide b2) (by simp))
  have p3 : Hid (W1.heap[w1.heap.size]? = some (.cells #[.int .i64 (nw : Int), .int .i64 (nh : Int), .slice (some ⟨q, 0, none⟩) m m] 57 (0, 0))) := by rw [← hW1]; exact heap_alloc_new w1 _
  have HS1 : Hid (W.heap.size + 3 ≤ w1.heap.size) := by have := g1.size; have := unhide HS0; unfold Hid; omega
  have HW1 := hide hW1
  generalize hs : W.heap.size = s at *
  have HS := hide hs
  clear hs
  have c0 : W1.cell? ⟨s, 0, none⟩ = some (.int .i64 (wd : Int)) := by rw [cell_of_row W1 _ 0 _ _ (0, 0) (unhide p0)]; rfl
  have c1 : W1.cell? ⟨s, 1, none⟩ = some (.int .i64 (ht : Int)) := by rw [cell_of_row W1 _ 1 _ _ (0, 0) (unhide p0)]; rfl
  have c2 : W1.cell? ⟨s + 1, 0, none⟩ = some (.int .i64 (nw : Int)) := by rw [cell_of_row W1 _ 0 _ _ (0, 0) (unhide p1)]; rfl
  have c3 : W1.cell? ⟨s + 1, 1, none⟩ = some (.int .i64 (nh : Int)) := by rw [cell_of_row W1 _ 1 _ _ (0, 0) (unhide p1)]; rfl
  have d2 : (w1.alloc (.cells #[.int .i64 (nw : Int), .int .i64 (nh : Int), .slice (some ⟨q, 0, none⟩) m m] 57)).cell? ⟨s + 1, 0, none⟩ = some (.int .i64 (nw : Int)) := by rw [unhide HW1]; exact c2
  have d3 : (w1.alloc (.cells #[.int .i64 (nw : Int), .int .i64 (nh : Int), .slice (some ⟨q, 0, none⟩) m m] 57)).cell? ⟨s + 1, 1, none⟩ = some (.int .i64 (nh : Int)) := by rw [unhide HW1]; exact c3
  clear hQ hge g1 hW1 HB0 HW b0 b1 b2
  go_wp2
  rw [unhide HW1]
  generalize hs1 : w1.heap.size = s1 at *
  clear hs1 HW1 d2 d3
  have HQS : Hid (s + 3 ≤ q) := by have := unhide HGE; have := unhide HS0; unfold Hid; omega
  have H0' : Hid (∀ i, 0 ≤ L.getD i 0 ∧ L.getD i 0 ≤ 4095) := fun i => by
    by_cases hi : i < L.length
    · have e : L.getD i 0 = L[i] := by simp [hi]
      rw [e]
      exact unhide H0 _ (List.getElem_mem hi)
    · have e : L.getD i 0 = 0 := by rw [List.getD_eq_getElem?_getD, List.getElem?_eq_none (by omega)]; rfl
      rw [e]
      omega
  go_loopw [12] (fun rv wr => ∃ (r k : Nat), r ≤ nh ∧ rv = .int .i64 r ∧ Hid (r * nw = k) ∧ Hid (Blk .u16 73 wr q (laidTo X k)) ∧ Hid (W1.grownBy wr (some q))) (fun rv _ => nh - (intOf rv).toNat)
  case atStart => exact ⟨0, 0, by omega, by go_num, by simp [Hid], HQ1, World.grownBy.refl _ _⟩
  case round =>
    obtain ⟨r, k, hr, rfl, HK, HQR, HGR⟩ := hrel
    by_cases hlt : r < nh
    · have hrI : (r : Int) < (nh : Int) := by omega
      have e1 := i64_in ((r : Int) + 1) (by omega)
      have hok := unhide HOK
      obtain ⟨a, HA⟩ : ∃ a, Hid (fromN ht nh r = a) := ⟨_, rfl⟩
      obtain ⟨b, HB⟩ : ∃ b, Hid (toN ht nh r = b) := ⟨_, rfl⟩
      have hab : a < b := by rw [← unhide HA, ← unhide HB]; exact from_to hnh.1 hh.1
      have hbm : b ≤ ht := by rw [← unhide HB]; exact to_le hlt
      obtain ⟨ct, HCT⟩ : ∃ k, Hid (b - a = k) := ⟨_, rfl⟩
      obtain ⟨lo, HLO⟩ : ∃ lo : Nat, Hid (a * wd = lo) := ⟨_, rfl⟩
      have hkx := row_end (w := nw) hlt
      have hlx := row_end (w := wd) (show a < ht by omega)
      rw [Nat.mul_comm nh nw, unhide HK, unhide HM] at hkx
      rw [Nat.mul_comm ht wd, unhide HLO, unhide HN] at hlx
      have x0 := hide (grown_atG (unhide HGR) (unhide p0) (by have := unhide HQS; simp; omega))
      have x1 := hide (grown_atG (unhide HGR) (unhide p1) (by have := unhide HQS; simp; omega))
      have HK' : Hid ((r + 1) * nw = k + nw) := by unfold Hid; rw [Nat.add_mul, Nat.one_mul, unhide HK]
      have HAT : Hid (∀ x, x < nw → X.getD (k + x) 0 = ((List.range nw).map (shrinkF L wd ht nw nh r)).getD x 0) := fun x hx => by
        rw [← unhide HX, shrinkL, ← unhide HK, gridL_at _ hlt hx]
        simp [hx]
      have cy : wr.cell? ⟨s, 1, none⟩ = some (.int .i64 (ht : Int)) := by rw [cell_of_row wr _ 1 _ _ (0, 0) (unhide x0)]; rfl
      have cz : wr.cell? ⟨s + 1, 1, none⟩ = some (.int .i64 (nh : Int)) := by rw [cell_of_row wr _ 1 _ _ (0, 0) (unhide x1)]; rfl
      go_wp2_with fail
      refine (spanOf r nh ht a b hlt hnh.2 hh HA HB wr).mono ?_
      rintro e w4 ⟨rfl, g4⟩
      obtain ⟨W5, hW5⟩ : ∃ W5, w4.alloc (.cells #[.int .i64 (a : Int), .int .i64 (b : Int)] 86) = W5 := ⟨_, rfl⟩
      have G5 : Hid (wr.grownBy W5 none) := by rw [← hW5]; exact grown_alloc g4 _
      have b7 : Hid (W5.heap[w4.heap.size]? = some (.cells #[.int .i64 (a : Int), .int .i64 (b : Int)] 86 (0, 0))) := by rw [← hW5]; exact heap_alloc_new w4 _
      have HW5 := hide hW5
      clear hW5 g4 cy cz x1
      go_wp2_with fail
      rw [unhide HW5]
      clear HW5
      generalize w4.heap.size = s7 at *
      refine (spanCount a b ct (by omega) (by omega) HCT W5).mono ?_
      rintro e w6 ⟨rfl, g6⟩
      have G6 := hide (grown_trans (unhide G5) g6)
      have b8 := hide (grown_atG g6 (unhide b7) (by simp))
      clear g6 b7 G5
      by_cases hone : ct = 1
      · have e3 : ((ct : Int) == 1) = true := by simp [hone]
        have e4 : decide ((ct : Int) = 1) = true := by simp [hone]
        have HONE := hide hone
        have HMO : Hid (meansL (rowL L wd a) nw 1 = (List.range nw).map (shrinkF L wd ht nw nh r)) := by
          unfold Hid
          rw [← unhide HA]
          exact means_one (by rw [unhide HL, unhide HN]) hw.1 hlt (by rw [unhide HA, unhide HB, unhide HCT]; exact hone)
        clear hone
        go_wp2
        have G7 : Hid (wr.grownBy w6.drew none) := grown_drew (unhide G6)
        have x0 : Hid (w6.drew.heap[s]? = _) := grown_atG (unhide G7) (unhide x0) (by simp)
        have x3 : Hid (w6.drew.heap[s1]? = _) := grown_atG (unhide G7) (grown_atG (unhide HGR) (unhide p3) (by have := unhide HQL; simp; omega)) (by simp)
        have x7 : Hid (w6.drew.heap[s7]? = some (.cells #[.int .i64 (a : Int), .int .i64 (b : Int)] 86 (0, 0))) := unhide b8
        have HQ7 : Hid (Blk .u16 73 w6.drew q (laidTo X k)) := (unhide HQR).grown (unhide G7)
        have HB7 : Hid (Blk .u16 73 w6.drew g L) := ((unhide HB1).beside (unhide HGR) (by have := unhide HGL; have := unhide HQS; simp; omega)).grown (unhide G7)
        refine wp_region_noPanic ?_
        refine wp_region_tailL 20 (fun W => W.heap[s]? = some (.cells #[.int .i64 (wd : Int), .int .i64 (ht : Int), .slice (some ⟨g, 0, none⟩) n n] 57 (0, 0)) ∧ W.heap[s1]? = some (.cells #[.int .i64 (nw : Int), .int .i64 (nh : Int), .slice (some ⟨q, 0, none⟩) m m] 57 (0, 0)) ∧ W.heap[s7]? = some (.cells #[.int .i64 (a : Int), .int .i64 (b : Int)] 86 (0, 0))) [true, true, true, false, true, true, true, true, false, false] (by kernel_rfl) (fun _ _ _ _ _ h => h) rfl (by decide) (by kernel_rfl) ⟨unhide x0, unhide x3, unhide x7⟩ ?_
        generalize w6.drew = w7 at *
        clear G6 b8
        refine heldF_take (v := ?_) (Or.inl ⟨by rfl, ?_⟩) ?_
        rotate_left 1
        · intro w' hSw
          go_simp
          try with_reducible rfl
        try simp only [Act.put, List.setIfInBounds_toArray, List.set_cons_zero, List.set_cons_succ]
        refine heldF_take (v := .agg #[.int .i64 (nw : Int), .int .i64 (nh : Int), .slice (some ⟨q, 0, none⟩) m m]) (Or.inl ⟨by rfl, ?_⟩) ?_
        · intro w' hSw
          exact exec_row 55 _ rfl s1 rfl _ _ hSw.2.1 _ Try.underlying55 rfl (by kernel_rfl)
        try simp only [Act.put, List.setIfInBounds_toArray, List.set_cons_zero, List.set_cons_succ]
        refine heldF_take (v := ?_) (Or.inl ⟨by rfl, ?_⟩) ?_
        rotate_left 1
        · intro w' hSw
          go_simp
          try with_reducible rfl
        try simp only [Act.put, List.setIfInBounds_toArray, List.set_cons_zero, List.set_cons_succ]
        refine heldF_skip ?_
        refine heldF_take (v := ?_) (Or.inl ⟨by rfl, ?_⟩) ?_
        rotate_left 1
        · intro w' hSw
          go_simp
          try with_reducible rfl
        try simp only [Act.put, List.setIfInBounds_toArray, List.set_cons_zero, List.set_cons_succ]
        refine heldF_take (v := .agg #[.int .i64 (wd : Int), .int .i64 (ht : Int), .slice (some ⟨g, 0, none⟩) n n]) (Or.inl ⟨by rfl, ?_⟩) ?_
        · intro w' hSw
          exact exec_row 55 _ rfl s rfl _ _ hSw.1 _ Try.underlying55 rfl (by kernel_rfl)
        try simp only [Act.put, List.setIfInBounds_toArray, List.set_cons_zero, List.set_cons_succ]
        refine heldF_take (v := ?_) (Or.inl ⟨by rfl, ?_⟩) ?_
        rotate_left 1
        · intro w' hSw
          go_simp
          try with_reducible rfl
        try simp only [Act.put, List.setIfInBounds_toArray, List.set_cons_zero, List.set_cons_succ]
        refine heldF_take (v := ?_) (Or.inl ⟨by rfl, ?_⟩) ?_
        rotate_left 1
        · intro w' hSw
          have ca : w'.cell? ⟨s7, 0, none⟩ = some (.int .i64 (a : Int)) := by rw [cell_of_row w' _ 0 _ _ (0, 0) hSw.2.2]; rfl
          go_simp
          try with_reducible rfl
        try simp only [Act.put, List.setIfInBounds_toArray, List.set_cons_zero, List.set_cons_succ]
        refine heldF_skip ?_
        refine heldF_skip ?_
        refine heldF_nil ?_
        refine tailL_skip ?_
        refine tailL_skip ?_
        refine tailL_skip ?_
        refine tailL_step (fun K hK => ?_)
        go_simp
        refine (toneRow nw nh q m r k hnw hnh.2 hlt HM HK w7).mono ?_
        rintro e w5 ⟨rfl, g5⟩
        refine hK.out _ _ (.inr ⟨grown_atG g5 (unhide x0) (by simp), grown_atG g5 (unhide x3) (by simp), grown_atG g5 (unhide x7) (by simp)⟩) ?_
        clear hK K
        try simp only [Act.put, List.setIfInBounds_toArray, List.set_cons_zero, List.set_cons_succ]
        refine tailL_skip ?_
        refine tailL_skip ?_
        refine tailL_skip ?_
        refine tailL_skip ?_
        refine tailL_step (fun K hK => ?_)
        go_simp
        refine (toneRow wd ht g n a lo hw hh.2 (by omega) HN HLO w5).mono ?_
        rintro e w8 ⟨rfl, g8⟩
        refine hK.out _ _ (.inr ⟨grown_atG (grown_trans g5 g8) (unhide x0) (by simp), grown_atG (grown_trans g5 g8) (unhide x3) (by simp), grown_atG (grown_trans g5 g8) (unhide x7) (by simp)⟩) ?_
        clear hK K
        try simp only [Act.put, List.setIfInBounds_toArray, List.set_cons_zero, List.set_cons_succ]
        refine tailL_step (fun K hK => ?_)
        go_simp
        have hS8 := ((unhide HB7).grown (grown_trans g5 g8)).rd lo wd (by have := unhide HL; omega)
        have hPL : rowL L wd a = (L.drop lo).take wd := by rw [rowL, unhide HLO]
        rw [← hPL] at hS8
        refine (fillT q k nw _ g lo wd _ 1 X (rowL L wd a) w8 hnw hw (by omega) (by omega) ((unhide HQ7).grown (grown_trans g5 g8)) (by rw [unhide HXL]; exact hkx) (fun x hx => by rw [unhide HAT x hx, unhide HMO]) hS8 (by have := unhide HGL; have := unhide HQS; have := unhide HS; omega) (fun i => ?_)).mono ?_
        · by_cases hi : i < wd
          · rw [rowL_at hi]; have := unhide H0' (a * wd + i); simpa using this
          · have e : (rowL L wd a).getD i 0 = 0 := by rw [List.getD_eq_getElem?_getD, List.getElem?_eq_none (by rw [hS8.1]; omega)]; rfl
            rw [e]; omega
        rintro e w9 ⟨⟨v, rfl⟩, hQ9, g9⟩
        refine hK.out _ _ (.inl rfl) ?_
        clear hK K
        refine tailL_nil (NoPanic.normal ?_)
        try simp only [Act.put]
        have HG9 : Hid (W1.grownBy w9 (some q)) := grown_trans (unhide HGR) (grown_trans (grown_any (grown_trans (unhide G7) (grown_trans g5 g8))) g9)
        have HQ9 := hide hQ9
        clear hQ9 g9 g8 g5 HQR HGR
        go_wp2
        go_roundw
        case rel => exact ⟨r + 1, k + nw, by omega, by go_num, HK', HQ9, HG9⟩
        case measure => simp [intOf]; omega
      · have e3 : ((ct : Int) == 1) = false := by simp; omega
        have e4 : decide ((ct : Int) = 1) = false := by simp; omega
        have HMO : Hid (meansL (colsL L wd a ct) nw ct = (List.range nw).map (shrinkF L wd ht nw nh r)) := by
          unfold Hid
          have := means_more (L := L) (w := wd) (h := ht) (nw := nw) (nh := nh) (y := r) hw.1
          rw [unhide HA, unhide HB, unhide HCT] at this
          exact this
        have HC0 : Hid (∀ i, 0 ≤ (colsL L wd a ct).getD i 0 ∧ (colsL L wd a ct).getD i 0 ≤ 4095 * ct) := fun i => by
          by_cases hi : i < wd
          · rw [colsL_at _ _ _ _ _ hi]
            exact colS_in (unhide H0') ct
          · have e : (colsL L wd a ct).getD i 0 = 0 := by rw [List.getD_eq_getElem?_getD, List.getElem?_eq_none (by rw [colsL_len]; omega)]; rfl
            rw [e]
            omega
        clear hone
        go_wp2
        have G7 : Hid (wr.grownBy w6.drew none) := grown_drew (unhide G6)
        have x0 : Hid (w6.drew.heap[s]? = _) := grown_atG (unhide G7) (unhide x0) (by simp)
        have x3 : Hid (w6.drew.heap[s1]? = _) := grown_atG (unhide G7) (grown_atG (unhide HGR) (unhide p3) (by have := unhide HQL; simp; omega)) (by simp)
        have x7 : Hid (w6.drew.heap[s7]? = some (.cells #[.int .i64 (a : Int), .int .i64 (b : Int)] 86 (0, 0))) := unhide b8
        have HQ7 : Hid (Blk .u16 73 w6.drew q (laidTo X k)) := (unhide HQR).grown (unhide G7)
        have HB7 : Hid (Blk .u16 73 w6.drew g L) := ((unhide HB1).beside (unhide HGR) (by have := unhide HGL; have := unhide HQS; simp; omega)).grown (unhide G7)
        refine wp_region_noPanic ?_
        refine wp_region_tailL 20 (fun W => W.heap[s]? = some (.cells #[.int .i64 (wd : Int), .int .i64 (ht : Int), .slice (some ⟨g, 0, none⟩) n n] 57 (0, 0)) ∧ W.heap[s1]? = some (.cells #[.int .i64 (nw : Int), .int .i64 (nh : Int), .slice (some ⟨q, 0, none⟩) m m] 57 (0, 0)) ∧ W.heap[s7]? = some (.cells #[.int .i64 (a : Int), .int .i64 (b : Int)] 86 (0, 0))) [true, true, true, false, true, true, false, true, false, false] (by kernel_rfl) (fun _ _ _ _ _ h => h) rfl (by decide) (by kernel_rfl) ⟨unhide x0, unhide x3, unhide x7⟩ ?_
        generalize w6.drew = w7 at *
        clear G6 b8
        refine heldF_take (v := ?_) (Or.inl ⟨by rfl, ?_⟩) ?_
        rotate_left 1
        · intro w' hSw
          go_simp
          try with_reducible rfl
        try simp only [Act.put, List.setIfInBounds_toArray, List.set_cons_zero, List.set_cons_succ]
        refine heldF_take (v := .agg #[.int .i64 (nw : Int), .int .i64 (nh : Int), .slice (some ⟨q, 0, none⟩) m m]) (Or.inl ⟨by rfl, ?_⟩) ?_
        · intro w' hSw
          exact exec_row 55 _ rfl s1 rfl _ _ hSw.2.1 _ Try.underlying55 rfl (by kernel_rfl)
        try simp only [Act.put, List.setIfInBounds_toArray, List.set_cons_zero, List.set_cons_succ]
        refine heldF_take (v := ?_) (Or.inl ⟨by rfl, ?_⟩) ?_
        rotate_left 1
        · intro w' hSw
          go_simp
          try with_reducible rfl
        try simp only [Act.put, List.setIfInBounds_toArray, List.set_cons_zero, List.set_cons_succ]
        refine heldF_skip ?_
        refine heldF_take (v := .agg #[.int .i64 (wd : Int), .int .i64 (ht : Int), .slice (some ⟨g, 0, none⟩) n n]) (Or.inl ⟨by rfl, ?_⟩) ?_
        · intro w' hSw
          exact exec_row 57 _ rfl s rfl _ _ hSw.1 _ Try.underlying57 rfl (by kernel_rfl)
        try simp only [Act.put, List.setIfInBounds_toArray, List.set_cons_zero, List.set_cons_succ]
        refine heldF_take (v := .agg #[.int .i64 (a : Int), .int .i64 (b : Int)]) (Or.inl ⟨by rfl, ?_⟩) ?_
        · intro w' hSw
          exact exec_row 86 _ rfl s7 rfl _ _ hSw.2.2 _ Try.underlying86 rfl (by kernel_rfl)
        try simp only [Act.put, List.setIfInBounds_toArray, List.set_cons_zero, List.set_cons_succ]
        refine heldF_skip ?_
        refine heldF_take (v := .agg #[.int .i64 (a : Int), .int .i64 (b : Int)]) (Or.inl ⟨by rfl, ?_⟩) ?_
        · intro w' hSw
          exact exec_row 86 _ rfl s7 rfl _ _ hSw.2.2 _ Try.underlying86 rfl (by kernel_rfl)
        try simp only [Act.put, List.setIfInBounds_toArray, List.set_cons_zero, List.set_cons_succ]
        refine heldF_skip ?_
        refine heldF_skip ?_
        refine heldF_nil ?_
        refine tailL_skip ?_
        refine tailL_skip ?_
        refine tailL_skip ?_
        refine tailL_step (fun K hK => ?_)
        go_simp
        refine (toneRow nw nh q m r k hnw hnh.2 hlt HM HK w7).mono ?_
        rintro e w5 ⟨rfl, g5⟩
        refine hK.out _ _ (.inr ⟨grown_atG g5 (unhide x0) (by simp), grown_atG g5 (unhide x3) (by simp), grown_atG g5 (unhide x7) (by simp)⟩) ?_
        clear hK K
        try simp only [Act.put, List.setIfInBounds_toArray, List.set_cons_zero, List.set_cons_succ]
        refine tailL_skip ?_
        refine tailL_skip ?_
        refine tailL_step (fun K hK => ?_)
        go_simp
        refine (columnSums wd ht g n a b ct L w5 hw hh.2 HN (by omega) HCT ((unhide HB7).grown g5) (unhide HL) (unhide H0')).mono ?_
        rintro e w8 ⟨gs, rfl, hC8, hge8, g8⟩
        have HC8 := hide hC8
        clear hC8
        refine hK.out _ _ (.inr ⟨grown_atG (grown_trans g5 g8) (unhide x0) (by simp), grown_atG (grown_trans g5 g8) (unhide x3) (by simp), grown_atG (grown_trans g5 g8) (unhide x7) (by simp)⟩) ?_
        clear hK K
        try simp only [Act.put, List.setIfInBounds_toArray, List.set_cons_zero, List.set_cons_succ]
        refine tailL_skip ?_
        refine tailL_step (fun K hK => ?_)
        go_simp
        refine (spanCount a b ct (by omega) (by omega) HCT w8).mono ?_
        rintro e wc ⟨rfl, gc⟩
        refine hK.out _ _ (.inr ⟨grown_atG (grown_trans g5 (grown_trans g8 gc)) (unhide x0) (by simp), grown_atG (grown_trans g5 (grown_trans g8 gc)) (unhide x3) (by simp), grown_atG (grown_trans g5 (grown_trans g8 gc)) (unhide x7) (by simp)⟩) ?_
        clear hK K
        try simp only [Act.put, List.setIfInBounds_toArray, List.set_cons_zero, List.set_cons_succ]
        refine tailL_step (fun K hK => ?_)
        go_simp
        have hS8 := ((unhide HC8).grown gc).rd0
        rw [colsL_len] at hS8
        refine (fillI q k nw _ gs 0 wd wd ct X (colsL L wd a ct) wc hnw hw (by have := unhide HCT; omega) (by omega) ((unhide HQ7).grown (grown_trans g5 (grown_trans g8 gc))) (by rw [unhide HXL]; exact hkx) (fun x hx => by rw [unhide HAT x hx, unhide HMO]) hS8 (by have := (unhide HQ7).lt; have := g5.size; omega) (unhide HC0)).mono ?_
        rintro e w9 ⟨⟨v, rfl⟩, hQ9, g9⟩
        refine hK.out _ _ (.inl rfl) ?_
        clear hK K
        refine tailL_nil (NoPanic.normal ?_)
        try simp only [Act.put]
        have HG9 : Hid (W1.grownBy w9 (some q)) := grown_trans (unhide HGR) (grown_trans (grown_any (grown_trans (unhide G7) (grown_trans g5 (grown_trans g8 gc)))) g9)
        have HQ9 := hide hQ9
        clear hQ9 g9 g8 g5 gc HQR HGR
        go_wp2
        go_roundw
        case rel => exact ⟨r + 1, k + nw, by omega, by go_num, HK', HQ9, HG9⟩
        case measure => simp [intOf]; omega
    · obtain rfl : nh = r := by omega
      have HALL : Hid (laidTo X k = X) := by unfold Hid; rw [← unhide HK, Nat.mul_comm nh nw, unhide HM, ← unhide HXL]; exact laidTo_all X
      have HO2 := hide (grown_atG (unhide HGR) (unhide p2) (by have := unhide HQS; simp; omega))
      have HO3 := hide (grown_atG (unhide HGR) (unhide p3) (by have := unhide HQL; simp; omega))
      rw [unhide HALL] at HQR
      go_wp2_with (first | (refine load_row rfl 57 _ rfl s1 rfl #[.int .i64 (nw : Int), .int .i64 (nh : Int), .slice (some ⟨q, 0, none⟩) m m] 57 (unhide HO3) _ Try.underlying57 rfl (by kernel_rfl) ?_) | (refine store_row rfl 57 _ _ rfl (s + 1 + 1) rfl #[.int .i64 (nw : Int), .int .i64 (nh : Int), .slice (some ⟨q, 0, none⟩) m m] rfl _ 57 (unhide HO2) rfl (by kernel_rfl) (by simp [Value.oneCell']) ?_; intro w9 hB9 g9))
      refine bodyPost_ret (v := .agg #[.int .i64 (nw : Int), .int .i64 (nh : Int), .slice (some ⟨q, 0, none⟩) m m]) ?_ rfl ⟨q, rfl, (unhide HQR).beside g9 (by have := unhide HQS; simp; omega), ?_⟩
      · rw [results_c1 rfl]
        exact run_loadVar_row w9 _ 57 57 _ (0, 0) _ hB9 Try.underlying57 rfl (by kernel_rfl)
      · exact grown_new (grown_new (grown_trans (unhide HG0) (unhide G1)) (unhide HGR) (fun k e => by simp at e; have := unhide HS; have := unhide HQS; omega)) g9 (fun k e => by simp at e; have := unhide HS; omega)

end Go.Proofs.Ytkefpjbdkhifhaa

namespace Go.Proofs.Ytkefpjbdkhifhaa
open Go.RowKit Go.Shelf

/-- All blocks lie as they lay, but those of O. -/
structure But (O : Nat → Prop) (W W' : World) : Prop where
  os : W'.os = W.os
  tape : W'.tape = W.tape
  output : W'.output = W.output
  size : W.heap.size ≤ W'.heap.size
  block : ∀ k, k < W.heap.size → ¬ O k → W'.heap[k]? = W.heap[k]?
theorem But.refl (O : Nat → Prop) (W : World) : But O W W := ⟨rfl, rfl, rfl, Nat.le_refl _, fun _ _ _ => rfl⟩
theorem But.trans {O : Nat → Prop} {A B C : World} (h : But O A B) (g : But O B C) : But O A C :=
  ⟨g.os.trans h.os, g.tape.trans h.tape, g.output.trans h.output, Nat.le_trans h.size g.size, fun k hk ho => (g.block k (Nat.lt_of_lt_of_le hk h.size) ho).trans (h.block k hk ho)⟩
theorem But.of_grown {O : Nat → Prop} {W W' : World} {row : Option Nat} (h : W.grownBy W' row) (hr : ∀ g, row = some g → O g) : But O W W' :=
  ⟨h.os, h.tape, h.output, h.size, fun k hk ho => h.block k hk (fun e => ho (hr k e.symm))⟩
theorem But.mono {O O' : Nat → Prop} {W W' : World} (h : But O W W') (ho : ∀ k, O k → O' k) : But O' W W' := ⟨h.os, h.tape, h.output, h.size, fun k hk hn => h.block k hk (fun e => hn (ho k e))⟩
theorem But.putObj {O : Nat → Prop} (W : World) (l : Nat) (o : Obj) (hl : O l) : But O W (W.putObj l o) := But.of_grown (grownBy_putObj' W l o) (fun g e => by cases e; exact hl)

/-- What speaks of the blocks of O alone. -/
def LocalJ {α : Type} (O : Nat → Prop) (J : List α → World → Prop) : Prop := ∀ pre W W', J pre W → (∀ k, O k → W'.heap[k]? = W.heap[k]?) → J pre W'

/-- What an iterator gives a loop whose body always goes on and writes into the blocks of O alone: all of S, in its order. -/
def Gives {α : Type} (P : Program) (g : Nat) (lb : Array Value) (encs : α → Array Value) (S : List α) (O : Nat → Prop) (w : World) : Prop :=
  ∀ (n l : Nat) (J : List α → World → Prop) (W : World), But O w W → (∀ k, O k → k < W.heap.size) → l < W.heap.size → ¬ O l → w.heap.size ≤ l → LocalJ (fun k => O k ∨ k = l) J →
    (∀ pre x W1 m, J pre W1 → But (fun k => O k ∨ k = l) W W1 → pre ++ [x] <+: S → YieldAt Fence.wide m P l (encs x) W1 fun e W' => e = .returned (.bool true) ∧ J (pre ++ [x]) W' ∧ But (fun k => O k ∨ k = l) W1 W') → J [] W →
    CallsIn Fence.wide n P g (#[.func (.yield l) #[] #[]] ++ lb) W fun e W' => (∃ v, e = .returned v) ∧ J S W' ∧ But (fun k => O k ∨ k = l) W W'

/-- How the body of a round is left. -/
def goesOn (R : World → Prop) : Exit → Act → World → Prop
  | .normal, _, W' => R W'
  | _, _, _ => False

theorem rangeFunc_gives {α : Type} {n : Nat} {P : Program} {g : Operand} {ps : Array Tmp} {assign body : Code} {Q : Exit → Act → World → Prop} {a : Act} {w : World}
    {gf : Nat} {lb : Array Value} (hg : a.eval g = .func (.func gf) #[] lb) (eg : ∀ args w, (callFunc gf args).run P w = .ok (.enter gf args) w)
    {encs : α → Array Value} {S : List α} {O : Nat → Prop} (hO : ∀ k, O k → k < w.heap.size) (hG : Gives P gf lb encs S O w) (hps : ∀ x, (encs x).size = ps.size)
    (I : List α → World → Prop) (hI : LocalJ O I) (h0 : I [] w) (a₁ : α → Act)
    (hassign : ∀ (l m : Nat) (x : α) (W : World) (K : Act → World → Prop), K (a₁ x) W →
      assign.wpIn (Fence.wide.inRound l) m P (Exit.then K (fun _ _ _ => False)) { tmps := (ps.zip (encs x)).foldl (fun t (p, v) => t.setIfInBounds p v) a.tmps, defers := [] } W)
    (hbody : ∀ (l m : Nat) (pre : List α) (x : α) (W : World), I pre W → But O w W → pre ++ [x] <+: S → body.wpIn (Fence.wide.inRound l) m P (goesOn fun W' => I (pre ++ [x]) W' ∧ But O W W') (a₁ x) W)
    (hdone : ∀ (D : Nat) (W : World), w.heap.size ≤ D → I S W → But O w W → W.heap[D]? = some (.deferred (some [])) → Q .normal { a with defers := { target := .collected D, args := #[] } :: a.defers } W) :
    (Code.rangeFunc g ps assign body).wpIn Fence.wide n P Q a w := by
  refine wpIn_rangeFunc ?_
  intro fn hfn
  obtain ⟨R, hR⟩ : ∃ R : LoopState → Loop, R = fun st => { state := st, pending := none, fn, tmps := a.tmps, params := ps, assign, body, defers := w.heap.size } := ⟨_, rfl⟩
  obtain ⟨l, hl⟩ : ∃ l, w.heap.size + 1 = l := ⟨_, rfl⟩
  obtain ⟨W1, hW1⟩ : ∃ W1, (w.alloc (.deferred (some []))).alloc (.loop (R .ready)) = W1 := ⟨_, rfl⟩
  have hs1 : W1.heap.size = w.heap.size + 2 := by rw [← hW1]; simp
  have hOl : ¬ O l := fun e => by have := hO l e; omega
  have hOD : ¬ O w.heap.size := fun e => by have := hO _ e; omega
  have hL1 : W1.heap[l]? = some (.loop (R .ready)) := by
    rw [← hW1, ← hl]; have := World.alloc_heap_new (w.alloc (.deferred (some []))) (.loop (R .ready)); rwa [World.size_alloc] at this
  have hD1 : W1.heap[w.heap.size]? = some (.deferred (some [])) := by
    rw [← hW1]; exact (Below.heap_alloc _ _ _ (by simp)).trans (World.alloc_heap_new w _)
  have b1 : ∀ O', But O' w W1 := fun O' => by
    rw [← hW1]; exact But.of_grown (grown_alloc (grown_alloc (World.grownBy.refl w none) _) _) (fun g e => by cases e)
  have hI1 : I [] W1 := hI _ _ _ h0 (fun k hk => (b1 (fun _ => False)).block k (hO k hk) (fun e => e))
  refine ⟨l, [{ target := .collected w.heap.size, args := #[] }], W1, { target := .fn (.func gf) lb, args := #[.func (.yield l) #[] #[]] }, W1, gf, #[.func (.yield l) #[] #[]] ++ lb, W1, ?_, ?_, fun _ _ => trivial, ?_, (fun h => by simp [Fence.wide] at h), ?_⟩
  · rw [← hW1, ← hl, hR]; exact run_enterLoop_outer _ _ _ _ _
  · simp only [resolve, hg]
    simp [go_sem]
  · simp [invoke, go_sem, eg]
  · have loc : LocalJ (fun k => O k ∨ k = l) (fun pre W => I pre W ∧ W.heap[l]? = some (.loop (R .ready))) := fun pre W W' h hk => ⟨hI _ _ _ h.1 (fun k ok => hk k (.inl ok)), (hk l (.inr rfl)).trans h.2⟩
    refine (hG (n - 1) l _ W1 (b1 O) (fun k hk => by have := hO k hk; omega) (by omega) hOl (by omega) loc ?_ ⟨hI1, hL1⟩).mono ?_
    · rintro pre x W m ⟨hi, hlW⟩ bW hlen
      have hlt : l < W.heap.size := (Array.getElem?_eq_some_iff.1 hlW).1
      have hy := run_yield (P := P) (args := encs x) hlW (by rw [hR]; exact hps x)
      rw [hR] at hy
      refine ⟨fn, _, assign, body, hy, roundIn_of_wpIn hfn (hassign l m x W _ ⟨_, run_beginRound hlW (by rw [hR]), ?_⟩)⟩
      clear hy
      obtain ⟨W2, hW2⟩ : ∃ W2, W.putObj l (.loop { R .ready with state := .busy }) = W2 := ⟨_, rfl⟩
      rw [hW2]
      have hl2 : W2.heap[l]? = some (.loop { R .ready with state := .busy }) := by rw [← hW2]; exact World.putObj_heap_same hlt
      have b2 : But (fun k => O k ∨ k = l) W W2 := by rw [← hW2]; exact But.putObj W l _ (.inr rfl)
      have hi2 : I pre W2 := hI _ _ _ hi (fun k hk => by rw [← hW2]; exact World.putObj_heap_other (fun e => hOl (by rw [← e]; exact hk)))
      have bw2 : But O w W2 := by
        have h := bW.trans b2
        exact ⟨h.os.trans (b1 O).os, h.tape.trans (b1 O).tape, h.output.trans (b1 O).output, Nat.le_trans (b1 O).size h.size, fun k hk ho => (h.block k (by omega) (fun e => by rcases e with e | e; exact ho e; omega)).trans ((b1 O).block k hk ho)⟩
      refine wpIn_mono (hbody l m pre x W2 hi2 bw2 hlen) ?_
      rintro e a3 W3 hp
      cases e with
      | normal =>
        obtain ⟨hi3, b3⟩ := hp
        have hl3 : W3.heap[l]? = some (.loop { R .ready with state := .busy }) := (b3.block l (Array.getElem?_eq_some_iff.1 hl2).1 hOl).trans hl2
        have hlt3 : l < W3.heap.size := (Array.getElem?_eq_some_iff.1 hl3).1
        have he := run_endRound (P := P) none hl3
        have hi4 : I (pre ++ [x]) (W3.putObj l (.loop (R .ready))) := hI _ _ _ hi3 (fun k hk => World.putObj_heap_other (fun e => hOl (by rw [← e]; exact hk)))
        have hl4 : (W3.putObj l (.loop (R .ready))).heap[l]? = some (.loop (R .ready)) := World.putObj_heap_same hlt3
        refine ⟨_, _, ?_, rfl, ⟨hi4, hl4⟩, (b2.trans (b3.mono (fun k hk => .inl hk))).trans (But.putObj W3 l _ (.inr rfl))⟩
        rw [hR] at he ⊢
        exact he
      | ret => exact hp.elim
      | exit id => exact hp.elim
      | goto t => exact hp.elim
      | panic ch => exact hp.elim
      | outgrown => exact hp.elim
    · rintro e W5 ⟨⟨v, rfl⟩, ⟨hi5, hl5⟩, b5⟩
      have hD5 : W5.heap[w.heap.size]? = some (.deferred (some [])) := (b5.block w.heap.size (by omega) (fun e => by rcases e with e | e; exact hOD e; omega)).trans hD1
      have he := run_endLoop (P := P) hl5 (by rw [hR]; simp)
      refine ⟨none, _, by rw [hR] at he; exact he, hdone w.heap.size _ (Nat.le_refl _) (hI _ _ _ hi5 (fun k hk => World.putObj_heap_other (fun e => hOl (by rw [← e]; exact hk)))) ?_ ((World.putObj_heap_other (by omega)).trans hD5)⟩
      have b6 : ∀ o, But (fun k => O k ∨ k = l) W1 (W5.putObj l o) := fun o => b5.trans (But.putObj W5 l o (.inr rfl))
      exact ⟨(b6 _).os.trans (b1 O).os, (b6 _).tape.trans (b1 O).tape, (b6 _).output.trans (b1 O).output, Nat.le_trans (b1 O).size (b6 _).size, fun k hk ho => ((b6 _).block k (by omega) (fun e => by rcases e with e | e; exact ho e; omega)).trans ((b1 O).block k hk ho)⟩

/-- The same inside a round of another loop. -/
theorem rangeFunc_gives_in {α : Type} {n : Nat} {P : Program} {g : Operand} {ps : Array Tmp} {assign body : Code} {Q : Exit → Act → World → Prop} {a : Act} {w : World} {l₀ : Nat} {r₀ : Loop} (hl₀ : w.heap[l₀]? = some (.loop r₀))
    {gf : Nat} {lb : Array Value} (hg : a.eval g = .func (.func gf) #[] lb) (eg : ∀ args w, (callFunc gf args).run P w = .ok (.enter gf args) w)
    {encs : α → Array Value} {S : List α} {O : Nat → Prop} (hO : ∀ k, O k → k < w.heap.size) (hG : Gives P gf lb encs S O w) (hps : ∀ x, (encs x).size = ps.size)
    (I : List α → World → Prop) (hI : LocalJ O I) (h0 : I [] w) (a₁ : α → Act)
    (hassign : ∀ (l m : Nat) (x : α) (W : World) (K : Act → World → Prop), K (a₁ x) W →
      assign.wpIn ((Fence.wide.inRound l₀).inRound l) m P (Exit.then K (fun _ _ _ => False)) { tmps := (ps.zip (encs x)).foldl (fun t (p, v) => t.setIfInBounds p v) a.tmps, defers := [] } W)
    (hbody : ∀ (l m : Nat) (pre : List α) (x : α) (W : World), I pre W → But O w W → pre ++ [x] <+: S → body.wpIn ((Fence.wide.inRound l₀).inRound l) m P (goesOn fun W' => I (pre ++ [x]) W' ∧ But O W W') (a₁ x) W)
    (hdone : ∀ (W : World), I S W → But O w W → Q .normal a W) :
    (Code.rangeFunc g ps assign body).wpIn (Fence.wide.inRound l₀) n P Q a w := by
  refine wpIn_rangeFunc ?_
  intro fn hfn
  obtain ⟨R, hR⟩ : ∃ R : LoopState → Loop, R = fun st => { state := st, pending := none, fn, tmps := a.tmps, params := ps, assign, body, defers := r₀.defers } := ⟨_, rfl⟩
  obtain ⟨l, hl⟩ : ∃ l, w.heap.size = l := ⟨_, rfl⟩
  obtain ⟨W1, hW1⟩ : ∃ W1, w.alloc (.loop (R .ready)) = W1 := ⟨_, rfl⟩
  have hs1 : W1.heap.size = w.heap.size + 1 := by rw [← hW1]; simp
  have hOl : ¬ O l := fun e => by have := hO l e; omega
  have hL1 : W1.heap[l]? = some (.loop (R .ready)) := by rw [← hW1, ← hl]; exact World.alloc_heap_new w _
  have b1 : ∀ O', But O' w W1 := fun O' => by
    rw [← hW1]; exact But.of_grown (grown_alloc (World.grownBy.refl w none) _) (fun g e => by cases e)
  have hI1 : I [] W1 := hI _ _ _ h0 (fun k hk => (b1 (fun _ => False)).block k (hO k hk) (fun e => e))
  refine ⟨l, [], W1, { target := .fn (.func gf) lb, args := #[.func (.yield l) #[] #[]] }, W1, gf, #[.func (.yield l) #[] #[]] ++ lb, W1, ?_, ?_, fun _ _ => trivial, ?_, (fun h => by simp [Fence.wide, Fence.inRound] at h), ?_⟩
  · rw [← hW1, ← hl, hR]; exact run_enterLoop_inner hl₀ _ _ _ _ _
  · simp only [resolve, hg]
    simp [go_sem]
  · simp [invoke, go_sem, eg]
  · have loc : LocalJ (fun k => O k ∨ k = l) (fun pre W => I pre W ∧ W.heap[l]? = some (.loop (R .ready))) := fun pre W W' h hk => ⟨hI _ _ _ h.1 (fun k ok => hk k (.inl ok)), (hk l (.inr rfl)).trans h.2⟩
    refine (CallsIn.inRound l₀ (hG (n - 1) l _ W1 (b1 O) (fun k hk => by have := hO k hk; omega) (by omega) hOl (by omega) loc ?_ ⟨hI1, hL1⟩)).mono ?_
    · rintro pre x W m ⟨hi, hlW⟩ bW hlen
      have hlt : l < W.heap.size := (Array.getElem?_eq_some_iff.1 hlW).1
      have hy := run_yield (P := P) (args := encs x) hlW (by rw [hR]; exact hps x)
      rw [hR] at hy
      refine ⟨fn, _, assign, body, hy, roundIn_of_wpIn (F := Fence.wide.inRound l₀) hfn (hassign l m x W _ ⟨_, run_beginRound hlW (by rw [hR]), ?_⟩)⟩
      clear hy
      obtain ⟨W2, hW2⟩ : ∃ W2, W.putObj l (.loop { R .ready with state := .busy }) = W2 := ⟨_, rfl⟩
      rw [hW2]
      have hl2 : W2.heap[l]? = some (.loop { R .ready with state := .busy }) := by rw [← hW2]; exact World.putObj_heap_same hlt
      have b2 : But (fun k => O k ∨ k = l) W W2 := by rw [← hW2]; exact But.putObj W l _ (.inr rfl)
      have hi2 : I pre W2 := hI _ _ _ hi (fun k hk => by rw [← hW2]; exact World.putObj_heap_other (fun e => hOl (by rw [← e]; exact hk)))
      have bw2 : But O w W2 := by
        have h := bW.trans b2
        exact ⟨h.os.trans (b1 O).os, h.tape.trans (b1 O).tape, h.output.trans (b1 O).output, Nat.le_trans (b1 O).size h.size, fun k hk ho => (h.block k (by omega) (fun e => by rcases e with e | e; exact ho e; omega)).trans ((b1 O).block k hk ho)⟩
      refine wpIn_mono (hbody l m pre x W2 hi2 bw2 hlen) ?_
      rintro e a3 W3 hp
      cases e with
      | normal =>
        obtain ⟨hi3, b3⟩ := hp
        have hl3 : W3.heap[l]? = some (.loop { R .ready with state := .busy }) := (b3.block l (Array.getElem?_eq_some_iff.1 hl2).1 hOl).trans hl2
        have hlt3 : l < W3.heap.size := (Array.getElem?_eq_some_iff.1 hl3).1
        have he := run_endRound (P := P) none hl3
        have hi4 : I (pre ++ [x]) (W3.putObj l (.loop (R .ready))) := hI _ _ _ hi3 (fun k hk => World.putObj_heap_other (fun e => hOl (by rw [← e]; exact hk)))
        have hl4 : (W3.putObj l (.loop (R .ready))).heap[l]? = some (.loop (R .ready)) := World.putObj_heap_same hlt3
        refine ⟨_, _, ?_, rfl, ⟨hi4, hl4⟩, (b2.trans (b3.mono (fun k hk => .inl hk))).trans (But.putObj W3 l _ (.inr rfl))⟩
        rw [hR] at he ⊢
        exact he
      | ret => exact hp.elim
      | exit id => exact hp.elim
      | goto t => exact hp.elim
      | panic ch => exact hp.elim
      | outgrown => exact hp.elim
    · rintro e W5 ⟨⟨v, rfl⟩, ⟨hi5, hl5⟩, b5⟩
      have he := run_endLoop (P := P) hl5 (by rw [hR]; simp)
      have b6 : ∀ o, But (fun k => O k ∨ k = l) W1 (W5.putObj l o) := fun o => b5.trans (But.putObj W5 l o (.inr rfl))
      exact ⟨none, _, by rw [hR] at he; exact he, hdone _ (hI _ _ _ hi5 (fun k hk => World.putObj_heap_other (fun e => hOl (by rw [← e]; exact hk))))
        ⟨(b6 _).os.trans (b1 O).os, (b6 _).tape.trans (b1 O).tape, (b6 _).output.trans (b1 O).output, Nat.le_trans (b1 O).size (b6 _).size, fun k hk ho => ((b6 _).block k (by omega) (fun e => by rcases e with e | e; exact ho e; omega)).trans ((b1 O).block k hk ho)⟩⟩

end Go.Proofs.Ytkefpjbdkhifhaa

namespace Go.Proofs.Ytkefpjbdkhifhaa
open Go.RowKit Go.Shelf

attribute [local go_sem] Oper.semAt_some

/-- The first k columns of a row. -/
def sCol (r : Nat) : Nat → List (Nat × Nat)
  | 0 => []
  | k + 1 => sCol r k ++ [(r, k)]
/-- The first r rows of W columns. -/
def sTo (W : Nat) : Nat → List (Nat × Nat)
  | 0 => []
  | r + 1 => sTo W r ++ sCol r W
theorem sCol_len (r : Nat) : ∀ k, (sCol r k).length = k
  | 0 => rfl
  | k + 1 => by simp [sCol, sCol_len r k]
theorem sTo_len (W : Nat) : ∀ r, (sTo W r).length = r * W
  | 0 => by simp [sTo]
  | r + 1 => by simp [sTo, sTo_len W r, sCol_len, Nat.succ_mul]
theorem sCol_pre (r : Nat) {k m : Nat} (h : k ≤ m) : sCol r k <+: sCol r m := by
  induction m with
  | zero => obtain rfl : k = 0 := by omega
            exact List.prefix_refl _
  | succ m ih =>
    by_cases e : k = m + 1
    · subst e; exact List.prefix_refl _
    · exact (ih (by omega)).trans (List.prefix_append _ _)
theorem sTo_pre (W : Nat) {k m : Nat} (h : k ≤ m) : sTo W k <+: sTo W m := by
  induction m with
  | zero => obtain rfl : k = 0 := by omega
            exact List.prefix_refl _
  | succ m ih =>
    by_cases e : k = m + 1
    · subst e; exact List.prefix_refl _
    · exact (ih (by omega)).trans (List.prefix_append _ _)
/-- Where a row is not at its end, what has come and one more is a beginning of all. -/
theorem spot_pre {W H r k : Nat} (hr : r < H) (hk : k < W) : sTo W r ++ sCol r k ++ [(r, k)] <+: sTo W H := by
  have h1 : sTo W r ++ sCol r (k + 1) <+: sTo W (r + 1) := (List.prefix_append_right_inj _).2 (sCol_pre r (by omega))
  rw [List.append_assoc]
  exact h1.trans (sTo_pre W (by omega))

theorem sCol_mem {r k : Nat} {x : Nat × Nat} : x ∈ sCol r k → x.1 = r ∧ x.2 < k := by
  induction k with
  | zero => intro h; simp [sCol] at h
  | succ k ih =>
    intro h
    simp only [sCol, List.mem_append, List.mem_singleton] at h
    rcases h with h | h
    · have := ih h; omega
    · subst h; simp
theorem sTo_mem {W r : Nat} {x : Nat × Nat} : x ∈ sTo W r → x.1 < r ∧ x.2 < W := by
  induction r with
  | zero => intro h; simp [sTo] at h
  | succ r ih =>
    intro h
    simp only [sTo, List.mem_append] at h
    rcases h with h | h
    · have := ih h; omega
    · have := sCol_mem h; omega

set_option maxRecDepth 100000 in
set_option maxHeartbeats 1600000 in
theorem spots1_in (F : Fence) (n : Nat) (hf : F.fn 82) (hro : F.round = none) (hn : 1 ≤ n) (l Bn wd ht : Nat) (hwd : wd ≤ 4096) (hht : ht ≤ 4096) (J Jx : List (Nat × Nat) → World → Prop)
    (hY : ∀ pre (x : Nat × Nat) W, J pre W → pre ++ [x] <+: sTo wd ht → YieldAt F (n - 1) Try.prog l #[.int .i64 (x.1 : Int), .int .i64 (x.2 : Int)] W fun e W' =>
      (e = .returned (.bool true) ∧ J (pre ++ [x]) W' ∧ W'.heap[Bn]? = W.heap[Bn]?) ∨ (e = .returned (.bool false) ∧ Jx (pre ++ [x]) W'))
    (W : World) (hBn : W.heap[Bn]? = some (.cells #[.int .i64 (wd : Int), .int .i64 (ht : Int)] 48 (0, 0))) (h0 : J [] W) :
    CallsIn F n Try.prog 82 #[.func (.yield l) #[] #[], .pointer (some ⟨Bn, 0, none⟩)] W fun e W' => (∃ v, e = .returned v) ∧
      ((∃ ys, ys = sTo wd ht ∧ J ys W') ∨ (∃ pre, pre <+: sTo wd ht ∧ Jx pre W')) := by
  refine callsIn_of_wp Try.func82 rfl hf ?_ hro
  simp only [Try.ntmps82, List.size_toArray, List.length_cons, List.length_nil, Nat.reduceAdd, Nat.reduceSub, Array.replicate_succ, Array.replicate_zero, List.push_toArray, List.append_toArray, List.nil_append, List.cons_append]
  have cb := areaCells hBn
  gi_wp2
  gi_loopw [7] (fun i wr => ∃ r : Nat, r ≤ ht ∧ i = .int .i64 r ∧ J (sTo wd r) wr ∧ wr.heap[Bn]? = some (.cells #[.int .i64 (wd : Int), .int .i64 (ht : Int)] 48 (0, 0))) (fun i _ => ht - (intOf i).toNat)
  case atStart => exact ⟨0, Nat.zero_le _, rfl, h0, hBn⟩
  case round =>
    obtain ⟨r, hr, rfl, hJr, hbr⟩ := hrel
    by_cases hlt : r < ht
    · have cr := areaCells hbr
      gi_wp2
      gi_loopw [12] (fun i wr => ∃ k : Nat, k ≤ wd ∧ i = .int .i64 k ∧ J (sTo wd r ++ sCol r k) wr ∧ wr.heap[Bn]? = some (.cells #[.int .i64 (wd : Int), .int .i64 (ht : Int)] 48 (0, 0))) (fun i _ => wd - (intOf i).toNat)
      case atStart => exact ⟨0, Nat.zero_le _, rfl, by rw [sCol, List.append_nil]; exact hJr, hbr⟩
      case round =>
        obtain ⟨k, hk, rfl, hJk, hbk⟩ := hrel
        by_cases hltk : k < wd
        · have hlen := spot_pre (W := wd) (H := ht) hlt hltk
          obtain ⟨fn, tmps, assign, body, hy, hR⟩ := hY (sTo wd r ++ sCol r k) (r, k) wr hJk hlen
          dsimp only at hy
          gi_wp2
          refine hR.mono ?_
          rintro e W3 (⟨rfl, hJ3, hk3⟩ | ⟨rfl, hJx3⟩)
          · have hb3 : W3.heap[Bn]? = some (.cells #[.int .i64 (wd : Int), .int .i64 (ht : Int)] 48 (0, 0)) := hk3.trans hbk
            gi_wp2
            go_roundw
            case rel => exact ⟨k + 1, by omega, by go_num, by rw [sCol, ← List.append_assoc]; exact hJ3, hb3⟩
            case measure => simp [intOf]; omega
          · gi_wp2
            refine bodyPost_ret (results_none rfl _ _ _) rfl ?_
            exact ⟨⟨_, rfl⟩, .inr ⟨_, spot_pre hlt hltk, hJx3⟩⟩
        · obtain rfl : k = wd := by omega
          gi_wp2
          go_roundw
          case rel => exact ⟨r + 1, by omega, by go_num, by rw [sTo]; exact hJk, hbk⟩
          case measure => simp [intOf]; omega
    · obtain rfl : r = ht := by omega
      gi_wp2
      go_end0
      exact ⟨⟨_, rfl⟩, .inl ⟨_, rfl, hJr⟩⟩

/-- The spots of an area, given to a loop whose body always goes on. -/
theorem spots_gives (Bn wd ht : Nat) (hwd : wd ≤ 4096) (hht : ht ≤ 4096) (O : Nat → Prop) (w : World) (hBn : w.heap[Bn]? = some (.cells #[.int .i64 (wd : Int), .int .i64 (ht : Int)] 48 (0, 0))) (hOB : ¬ O Bn) :
    Gives Try.prog 82 #[.pointer (some ⟨Bn, 0, none⟩)] (fun x : Nat × Nat => #[.int .i64 (x.1 : Int), .int .i64 (x.2 : Int)]) (sTo wd ht) O w := by
  intro n l J W hW _ hl hOl hwl hJ hY h0
  have hlt : Bn < w.heap.size := (Array.getElem?_eq_some_iff.1 hBn).1
  have hBW : W.heap[Bn]? = some (.cells #[.int .i64 (wd : Int), .int .i64 (ht : Int)] 48 (0, 0)) := (hW.block Bn hlt hOB).trans hBn
  have hltW : Bn < W.heap.size := (Array.getElem?_eq_some_iff.1 hBW).1
  have hn1 : ∀ m, CallsIn Fence.wide m Try.prog 82 (#[.func (.yield l) #[] #[]] ++ #[.pointer (some ⟨Bn, 0, none⟩)]) W (fun e W' => (∃ v, e = .returned v) ∧ J (sTo wd ht) W' ∧ But (fun k => O k ∨ k = l) W W') → CallsIn Fence.wide n Try.prog 82 (#[.func (.yield l) #[] #[]] ++ #[.pointer (some ⟨Bn, 0, none⟩)]) W (fun e W' => (∃ v, e = .returned v) ∧ J (sTo wd ht) W' ∧ But (fun k => O k ∨ k = l) W W') := fun m h => callsIn_wide.2 (callsIn_wide.1 h)
  refine hn1 1 ?_
  refine (spots1_in Fence.wide 1 trivial rfl (Nat.le_refl _) l Bn wd ht hwd hht (fun pre W1 => J pre W1 ∧ But (fun k => O k ∨ k = l) W W1) (fun _ _ => False) ?_ W hBW ⟨h0, But.refl _ _⟩).mono ?_
  · rintro pre x W1 ⟨hj, hb⟩ hlen
    obtain ⟨fn, tmps, assign, body, hy, hR⟩ := hY pre x W1 (1 - 1) hj hb hlen
    refine ⟨fn, tmps, assign, body, hy, hR.mono ?_⟩
    rintro e W' ⟨rfl, hj', hb'⟩
    exact .inl ⟨rfl, ⟨hj', hb.trans hb'⟩, hb'.block Bn (Nat.lt_of_lt_of_le hltW hb.size) (fun e => by rcases e with e | e; exact hOB e; omega)⟩
  · rintro e W' ⟨hv, (⟨ys, rfl, hj, hb⟩ | ⟨pre, _, hf⟩)⟩
    · exact ⟨hv, hj, hb⟩
    · exact hf.elim

/-- What makes the function. -/
theorem spots_in (F : Fence) (n : Nat) (hf : F.fn 58) (hro : F.round = none) (a b : Int) (w : World) :
    CallsIn F n Try.prog 58 #[.agg #[.int .i64 a, .int .i64 b]] w fun e w' => e = .returned (.func (.func 82) #[] #[.pointer (some ⟨w.heap.size, 0, none⟩)]) ∧ w' = w.alloc (.cells #[.int .i64 a, .int .i64 b] 48) := by
  refine callsIn_of_wp Try.func58 rfl hf ?_ hro
  simp only [Try.ntmps58, List.size_toArray, List.length_cons, List.length_nil, Nat.reduceAdd, Nat.reduceSub, Array.replicate_succ, Array.replicate_zero, List.push_toArray, List.append_toArray, List.nil_append, List.cons_append]
  gi_wp2
  go_ret
  exact ⟨rfl, rfl⟩

end Go.Proofs.Ytkefpjbdkhifhaa

namespace Go.Proofs.Ytkefpjbdkhifhaa
open Go.RowKit Go.Shelf

theorem sCol_at (r : Nat) : ∀ (k j : Nat), j < k → (sCol r k)[j]? = some (r, j)
  | 0, j, h => by omega
  | k + 1, j, h => by
    rw [sCol]
    by_cases e : j < k
    · rw [List.getElem?_append_left (by rw [sCol_len]; exact e)]
      exact sCol_at r k j e
    · obtain rfl : j = k := by omega
      rw [List.getElem?_append_right (by rw [sCol_len]; exact Nat.le_refl _), sCol_len, Nat.sub_self]
      rfl
theorem sTo_at (W : Nat) : ∀ (H i : Nat) (x : Nat × Nat), (sTo W H)[i]? = some x → x.1 * W + x.2 = i ∧ x.1 < H ∧ x.2 < W
  | 0, i, x, h => by simp [sTo] at h
  | r + 1, i, x, h => by
    rw [sTo] at h
    by_cases e : i < r * W
    · rw [List.getElem?_append_left (by rw [sTo_len]; exact e)] at h
      obtain ⟨h1, h2, h3⟩ := sTo_at W r i x h
      exact ⟨h1, by omega, h3⟩
    · rw [List.getElem?_append_right (by rw [sTo_len]; omega), sTo_len] at h
      have hj : i - r * W < W := by
        have := (List.getElem?_eq_some_iff.1 h).1
        rwa [sCol_len] at this
      rw [sCol_at r W _ hj] at h
      have e2 : (r, i - r * W) = x := Option.some.inj h
      subst e2
      exact ⟨by show r * W + (i - r * W) = i; omega, by show r < r + 1; omega, hj⟩
theorem spot_num {W H : Nat} {pre : List (Nat × Nat)} {x : Nat × Nat} (h : pre ++ [x] <+: sTo W H) : x.1 * W + x.2 = pre.length ∧ x.1 < H ∧ x.2 < W := by
  obtain ⟨rest, e⟩ := h
  refine sTo_at W H pre.length x ?_
  rw [← e, List.append_assoc, List.getElem?_append_right (Nat.le_refl _), Nat.sub_self]
  rfl
theorem spot_less {W H : Nat} {pre : List (Nat × Nat)} {x : Nat × Nat} (h : pre ++ [x] <+: sTo W H) : pre.length < H * W := by
  have := h.length_le
  rw [sTo_len] at this
  simp at this
  omega

end Go.Proofs.Ytkefpjbdkhifhaa

namespace Go.Proofs.Ytkefpjbdkhifhaa
open Go.RowKit Go.Shelf

section
variable {P : Program} {ops : Array Oper} {md : Region.Mode} {Q : Exit → Act → World → Prop}

def noDefer : List Oper → Bool
  | [] => true
  | o :: r => (match o.op with | .defer _ => false | _ => true) && noDefer r
theorem noDefer_at : ∀ {l : List Oper}, noDefer l = true → ∀ (i : Nat) (o : Oper), l[i]? = some o → ∀ c, o.op ≠ .defer c
  | [], _, i, o, h, _ => by simp at h
  | x :: r, hn, i, o, h, c => by
    simp only [noDefer, Bool.and_eq_true] at hn
    cases i with
    | zero =>
      have e : x = o := by simpa using h
      subst e
      intro e2
      simp [e2] at hn
    | succ i => exact noDefer_at hn.2 i o (by simpa using h) c

theorem rows_round {row : String} {args : Array Value} {w : World} {R : Value → World → Prop} (l n : Nat) (h : Rows P row args w R) : RowsIn (Fence.wide.inRound l) n P row args w R := fun c cs _ => by
  obtain ⟨v, w', r, s⟩ := h c cs
  refine ⟨v, w', r, ?_⟩
  rw [fenced_inRound]
  exact stepsIn_wide.2 s

theorem wpOp_round {l n i : Nat} {K : Act → World → Prop} {a : Act} {w : World} (hnd : ∀ (i : Nat) (o : Oper), ops[i]? = some o → ∀ c, o.op ≠ .defer c) (hQ : ∀ a w, ¬ Q .outgrown a w) (h : wpOp P ops Q i K a w) : wpOpIn (Fence.wide.inRound l) n P ops Q i K a w := by
  unfold wpOp at h
  unfold wpOpIn
  cases ho : ops[i]? with
  | none => simp only [ho] at h; exact h
  | some o =>
    simp only [ho] at h
    by_cases hw : Region.wanted o (yielded ops a.tmps) = true
    · simp only [hw, if_true] at h ⊢
      rcases h with h | ⟨_, a0, w0, hq⟩
      · unfold Oper.wp at h
        refine ⟨fun _ _ => trivial, ?_⟩
        rw [Oper.semAt_eq _ _ _ (hnd i o ho)]
        generalize (execOp a.eval o).run P w = r at h ⊢
        cases r with
        | ok x w' =>
          cases x with
          | enter f args => exact ⟨fun e => by simp [Fence.wide, Fence.inRound] at e, CallsIn.inRound l (callsIn_wide.2 h)⟩
          | row rw' args => exact ⟨fun e => by simp [Fence.wide, Fence.inRound] at e, rows_round l _ h⟩
          | _ => first | exact h | exact h.elim
        | halt x w' => cases x <;> first | exact h | exact h.elim
      · exact (hQ _ _ hq).elim
    · simp only [hw, if_false, Bool.false_eq_true] at h ⊢
      exact ⟨fun _ _ => trivial, h⟩

theorem wpAny_round {l n : Nat} (hnd : ∀ (i : Nat) (o : Oper), ops[i]? = some o → ∀ c, o.op ≠ .defer c) (hQ : ∀ a w, ¬ Q .outgrown a w) : ∀ (fuel : Nat) (listed : Array Bool) (a : Act) (w : World), wpAny P md ops Q fuel listed a w → wpAnyIn (Fence.wide.inRound l) n P md ops Q fuel listed a w
  | 0, _, _, _, h => h
  | fuel + 1, _, _, _, h => ⟨h.1, fun i hi => wpOpIn_mono (fun a' w' h' => wpAny_round hnd hQ fuel _ a' w' h') (wpOp_round hnd hQ (h.2 i hi))⟩
end

/-- A region that draws its order, inside of a round. -/
theorem wpIn_raw {P : Program} {id l0 n : Nat} {Q : Exit → Act → World → Prop} {a : Act} {w : World} {l : List Oper} (S : World → Prop) (ms : List Bool) (hm : P.follows .mixedOrders = true) (hQo : ∀ a w, ¬ Q .outgrown a w) (hQ : ∀ c a d v w, Q (.panic c) (Act.put a d v) w → Q (.panic c) a w)
    (hl : l.length = ms.length) (hnd : noDefer l = true) (hB : (Region.noSelect l.toArray && lexRaw .any l.toArray ms 0 (Array.replicate l.length false)) = true)
    (hS : S w.drew) (h : heldF P l.toArray S (fun a' => wpAnyH P .any l.toArray Q S (leftF ms) (listedOf ms 0 (Array.replicate l.length false)) a' w.drew) l ms a) : (Code.region id l.toArray true).wpIn (Fence.wide.inRound l0) n P Q a w := by
  rw [Bool.and_eq_true] at hB
  have := anyH_raw (P := P) (ops := l.toArray) (md := .any) (S := S) (Q := Q) (leftF ms) hB.1 hQ l ms 0 (Array.replicate l.length false) a w.drew hl (fun j hj => by simp) hB.2 hS h
  rw [count_all ms, ← hl] at this
  refine wpIn_region_any hm (wpAny_round (fun i o ho c => noDefer_at hnd i o (by simpa using ho) c) hQo _ _ _ _ ?_)
  have h2 := wpAny_of_held _ _ _ _ this
  rw [List.size_toArray]
  exact h2

/-- What an iterator gives a loop whose body may also return: all of S, or a beginning of it. -/
def Stops {α : Type} (P : Program) (g : Nat) (lb : Array Value) (encs : α → Array Value) (S : List α) (O : Nat → Prop) (w : World) : Prop :=
  ∀ (n l : Nat) (J : List α → World → Prop) (Jx : World → Prop) (W : World), But O w W → (∀ k, O k → k < W.heap.size) → l < W.heap.size → ¬ O l → w.heap.size ≤ l → LocalJ (fun k => O k ∨ k = l) J →
    (∀ pre x W1 m, J pre W1 → But (fun k => O k ∨ k = l) W W1 → pre ++ [x] <+: S → YieldAt Fence.wide m P l (encs x) W1 fun e W' => ((e = .returned (.bool true) ∧ J (pre ++ [x]) W') ∨ (e = .returned (.bool false) ∧ Jx W')) ∧ But (fun k => O k ∨ k = l) W1 W') → J [] W →
    CallsIn Fence.wide n P g (#[.func (.yield l) #[] #[]] ++ lb) W fun e W' => (∃ v, e = .returned v) ∧ (J S W' ∨ Jx W') ∧ But (fun k => O k ∨ k = l) W W'

/-- How the body of a round is left. -/
def onOrRet (R Rx : World → Prop) : Exit → Act → World → Prop
  | .normal, _, W' => R W'
  | .ret, _, W' => Rx W'
  | _, _, _ => False

theorem rangeFunc_stops {α : Type} {n : Nat} {P : Program} {g : Operand} {ps : Array Tmp} {assign body : Code} {Q : Exit → Act → World → Prop} {a : Act} {w : World}
    {gf : Nat} {lb : Array Value} (hg : a.eval g = .func (.func gf) #[] lb) (eg : ∀ args w, (callFunc gf args).run P w = .ok (.enter gf args) w)
    {encs : α → Array Value} {S : List α} {O : Nat → Prop} (hO : ∀ k, O k → k < w.heap.size) (hG : Stops P gf lb encs S O w) (hps : ∀ x, (encs x).size = ps.size)
    (I : List α → World → Prop) (hI : LocalJ O I) (Ix : World → Prop) (hIx : ∀ W W', Ix W → (∀ k, O k → W'.heap[k]? = W.heap[k]?) → Ix W') (h0 : I [] w) (a₁ : α → Act)
    (hassign : ∀ (l m : Nat) (x : α) (W : World) (K : Act → World → Prop), K (a₁ x) W →
      assign.wpIn (Fence.wide.inRound l) m P (Exit.then K (fun _ _ _ => False)) { tmps := (ps.zip (encs x)).foldl (fun t (p, v) => t.setIfInBounds p v) a.tmps, defers := [] } W)
    (hbody : ∀ (l m : Nat) (pre : List α) (x : α) (W : World), I pre W → But O w W → pre ++ [x] <+: S → body.wpIn (Fence.wide.inRound l) m P (onOrRet (fun W' => I (pre ++ [x]) W' ∧ But O W W') (fun W' => Ix W' ∧ But O W W')) (a₁ x) W)
    (hdone : ∀ (D : Nat) (W : World), w.heap.size ≤ D → I S W → But O w W → W.heap[D]? = some (.deferred (some [])) → Q .normal { a with defers := { target := .collected D, args := #[] } :: a.defers } W)
    (hstop : ∀ (D : Nat) (W : World), w.heap.size ≤ D → Ix W → But O w W → W.heap[D]? = some (.deferred (some [])) → Q .ret { a with defers := { target := .collected D, args := #[] } :: a.defers } W) :
    (Code.rangeFunc g ps assign body).wpIn Fence.wide n P Q a w := by
  refine wpIn_rangeFunc ?_
  intro fn hfn
  obtain ⟨R, hR⟩ : ∃ R : LoopState → Option Code → Loop, R = fun st pe => { state := st, pending := pe, fn, tmps := a.tmps, params := ps, assign, body, defers := w.heap.size } := ⟨_, rfl⟩
  obtain ⟨l, hl⟩ : ∃ l, w.heap.size + 1 = l := ⟨_, rfl⟩
  obtain ⟨W1, hW1⟩ : ∃ W1, (w.alloc (.deferred (some []))).alloc (.loop (R .ready none)) = W1 := ⟨_, rfl⟩
  have hs1 : W1.heap.size = w.heap.size + 2 := by rw [← hW1]; simp
  have hOl : ¬ O l := fun e => by have := hO l e; omega
  have hOD : ¬ O w.heap.size := fun e => by have := hO _ e; omega
  have hL1 : W1.heap[l]? = some (.loop (R .ready none)) := by
    rw [← hW1, ← hl]; have := World.alloc_heap_new (w.alloc (.deferred (some []))) (.loop (R .ready none)); rwa [World.size_alloc] at this
  have hD1 : W1.heap[w.heap.size]? = some (.deferred (some [])) := by
    rw [← hW1]; exact (Below.heap_alloc _ _ _ (by simp)).trans (World.alloc_heap_new w _)
  have b1 : ∀ O', But O' w W1 := fun O' => by
    rw [← hW1]; exact But.of_grown (grown_alloc (grown_alloc (World.grownBy.refl w none) _) _) (fun g e => by cases e)
  have hI1 : I [] W1 := hI _ _ _ h0 (fun k hk => (b1 (fun _ => False)).block k (hO k hk) (fun e => e))
  refine ⟨l, [{ target := .collected w.heap.size, args := #[] }], W1, { target := .fn (.func gf) lb, args := #[.func (.yield l) #[] #[]] }, W1, gf, #[.func (.yield l) #[] #[]] ++ lb, W1, ?_, ?_, fun _ _ => trivial, ?_, (fun h => by simp [Fence.wide] at h), ?_⟩
  · rw [← hW1, ← hl, hR]; exact run_enterLoop_outer _ _ _ _ _
  · simp only [resolve, hg]
    simp [go_sem]
  · simp [invoke, go_sem, eg]
  · have loc : LocalJ (fun k => O k ∨ k = l) (fun pre W => I pre W ∧ W.heap[l]? = some (.loop (R .ready none))) := fun pre W W' h hk => ⟨hI _ _ _ h.1 (fun k ok => hk k (.inl ok)), (hk l (.inr rfl)).trans h.2⟩
    refine (hG (n - 1) l _ (fun W => Ix W ∧ W.heap[l]? = some (.loop (R .done (some .ret)))) W1 (b1 O) (fun k hk => by have := hO k hk; omega) (by omega) hOl (by omega) loc ?_ ⟨hI1, hL1⟩).mono ?_
    · rintro pre x W m ⟨hi, hlW⟩ bW hlen
      have hlt : l < W.heap.size := (Array.getElem?_eq_some_iff.1 hlW).1
      have hy := run_yield (P := P) (args := encs x) hlW (by rw [hR]; exact hps x)
      rw [hR] at hy
      refine ⟨fn, _, assign, body, hy, roundIn_of_wpIn hfn (hassign l m x W _ ⟨_, run_beginRound hlW (by rw [hR]), ?_⟩)⟩
      clear hy
      obtain ⟨W2, hW2⟩ : ∃ W2, W.putObj l (.loop { R .ready none with state := .busy }) = W2 := ⟨_, rfl⟩
      rw [hW2]
      have hl2 : W2.heap[l]? = some (.loop { R .ready none with state := .busy }) := by rw [← hW2]; exact World.putObj_heap_same hlt
      have b2 : But (fun k => O k ∨ k = l) W W2 := by rw [← hW2]; exact But.putObj W l _ (.inr rfl)
      have hi2 : I pre W2 := hI _ _ _ hi (fun k hk => by rw [← hW2]; exact World.putObj_heap_other (fun e => hOl (by rw [← e]; exact hk)))
      have bw2 : But O w W2 := by
        have h := bW.trans b2
        exact ⟨h.os.trans (b1 O).os, h.tape.trans (b1 O).tape, h.output.trans (b1 O).output, Nat.le_trans (b1 O).size h.size, fun k hk ho => (h.block k (by omega) (fun e => by rcases e with e | e; exact ho e; omega)).trans ((b1 O).block k hk ho)⟩
      refine wpIn_mono (hbody l m pre x W2 hi2 bw2 hlen) ?_
      rintro e a3 W3 hp
      cases e with
      | normal =>
        obtain ⟨hi3, b3⟩ := hp
        have hl3 : W3.heap[l]? = some (.loop { R .ready none with state := .busy }) := (b3.block l (Array.getElem?_eq_some_iff.1 hl2).1 hOl).trans hl2
        have hlt3 : l < W3.heap.size := (Array.getElem?_eq_some_iff.1 hl3).1
        have he := run_endRound (P := P) none hl3
        have hi4 : I (pre ++ [x]) (W3.putObj l (.loop (R .ready none))) := hI _ _ _ hi3 (fun k hk => World.putObj_heap_other (fun e => hOl (by rw [← e]; exact hk)))
        have hl4 : (W3.putObj l (.loop (R .ready none))).heap[l]? = some (.loop (R .ready none)) := World.putObj_heap_same hlt3
        refine ⟨_, _, ?_, .inl ⟨rfl, hi4, hl4⟩, (b2.trans (b3.mono (fun k hk => .inl hk))).trans (But.putObj W3 l _ (.inr rfl))⟩
        rw [hR] at he ⊢
        exact he
      | ret =>
        obtain ⟨hi3, b3⟩ := hp
        have hl3 : W3.heap[l]? = some (.loop { R .ready none with state := .busy }) := (b3.block l (Array.getElem?_eq_some_iff.1 hl2).1 hOl).trans hl2
        have hlt3 : l < W3.heap.size := (Array.getElem?_eq_some_iff.1 hl3).1
        have he := run_endRound (P := P) (some .ret) hl3
        have hi4 : Ix (W3.putObj l (.loop (R .done (some .ret)))) := hIx _ _ hi3 (fun k hk => World.putObj_heap_other (fun e => hOl (by rw [← e]; exact hk)))
        have hl4 : (W3.putObj l (.loop (R .done (some .ret)))).heap[l]? = some (.loop (R .done (some .ret))) := World.putObj_heap_same hlt3
        refine ⟨_, _, ?_, .inr ⟨rfl, hi4, hl4⟩, (b2.trans (b3.mono (fun k hk => .inl hk))).trans (But.putObj W3 l _ (.inr rfl))⟩
        rw [hR] at he ⊢
        exact he
      | exit id => exact hp.elim
      | goto t => exact hp.elim
      | panic ch => exact hp.elim
      | outgrown => exact hp.elim
    · rintro e W5 ⟨⟨v, rfl⟩, hor, b5⟩
      have hD5 : W5.heap[w.heap.size]? = some (.deferred (some [])) := (b5.block w.heap.size (by omega) (fun e => by rcases e with e | e; exact hOD e; omega)).trans hD1
      have b6 : ∀ o, But (fun k => O k ∨ k = l) W1 (W5.putObj l o) := fun o => b5.trans (But.putObj W5 l o (.inr rfl))
      have b7 : ∀ o, But O w (W5.putObj l o) := fun o => ⟨(b6 o).os.trans (b1 O).os, (b6 o).tape.trans (b1 O).tape, (b6 o).output.trans (b1 O).output, Nat.le_trans (b1 O).size (b6 o).size, fun k hk ho => ((b6 o).block k (by omega) (fun e => by rcases e with e | e; exact ho e; omega)).trans ((b1 O).block k hk ho)⟩
      rcases hor with ⟨hi5, hl5⟩ | ⟨hi5, hl5⟩
      · have he := run_endLoop (P := P) hl5 (by rw [hR]; simp)
        exact ⟨none, _, by rw [hR] at he; exact he, hdone w.heap.size _ (Nat.le_refl _) (hI _ _ _ hi5 (fun k hk => World.putObj_heap_other (fun e => hOl (by rw [← e]; exact hk)))) (b7 _) ((World.putObj_heap_other (by omega)).trans hD5)⟩
      · have he := run_endLoop (P := P) hl5 (by rw [hR]; simp)
        refine ⟨some .ret, _, by rw [hR] at he; exact he, ?_⟩
        refine wpIn_ret ?_
        exact hstop w.heap.size _ (Nat.le_refl _) (hIx _ _ hi5 (fun k hk => World.putObj_heap_other (fun e => hOl (by rw [← e]; exact hk)))) (b7 _) ((World.putObj_heap_other (by omega)).trans hD5)

end Go.Proofs.Ytkefpjbdkhifhaa

namespace Go.Proofs.Ytkefpjbdkhifhaa
open Go.RowKit Go.Shelf

attribute [local go_sem] Oper.semAt_some

set_option maxRecDepth 100000 in
set_option maxHeartbeats 6400000 in
theorem grown : TurnC 51 (fun wd ht nw nh => wd ≤ nw ∧ ht ≤ nh) (fun L wd ht nw nh => growL L wd ht nw nh) := by
  intro wd ht g n nw nh m L W hw hh HN hn hnw hnh HM hm hok hB hL h0
  have HL := hide hL
  have H0 := hide h0
  have HOK := hide hok
  have HGL : Hid (g < W.heap.size) := hB.lt
  obtain ⟨W0, hW0⟩ : ∃ W0, ((W.alloc (.cells #[.int .i64 (wd : Int), .int .i64 (ht : Int), .slice (some ⟨g, 0, none⟩) n n] 57)).alloc (.cells #[.int .i64 (nw : Int), .int .i64 (nh : Int)] 48)).alloc (.cells #[.int .i64 0, .int .i64 0, .slice none 0 0] 57) = W0 := ⟨_, rfl⟩
  have HG0 : Hid (W.grownBy W0 none) := by rw [← hW0]; exact grown_alloc (grown_alloc (World.grownBy_alloc _ _ _) _) _
  have b0 : Hid (W0.heap[W.heap.size]? = some (.cells #[.int .i64 (wd : Int), .int .i64 (ht : Int), .slice (some ⟨g, 0, none⟩) n n] 57 (0, 0))) := by rw [← hW0, Below.heap_alloc _ _ _ (by simp <;> omega), Below.heap_alloc _ _ _ (by simp)]; exact heap_alloc_new W _
  have b1 : Hid (W0.heap[W.heap.size + 1]? = some (.cells #[.int .i64 (nw : Int), .int .i64 (nh : Int)] 48 (0, 0))) := by
    rw [← hW0, Below.heap_alloc _ _ _ (by simp)]
    have := heap_alloc_new (W.alloc (.cells #[.int .i64 (wd : Int), .int .i64 (ht : Int), .slice (some ⟨g, 0, none⟩) n n] 57)) (.cells #[.int .i64 (nw : Int), .int .i64 (nh : Int)] 48)
    unfold Hid
    simpa using this
  have b2 : Hid (W0.heap[W.heap.size + 1 + 1]? = some (.cells #[.int .i64 0, .int .i64 0, .slice none 0 0] 57 (0, 0))) := by
    rw [← hW0]
    have := heap_alloc_new ((W.alloc (.cells #[.int .i64 (wd : Int), .int .i64 (ht : Int), .slice (some ⟨g, 0, none⟩) n n] 57)).alloc (.cells #[.int .i64 (nw : Int), .int .i64 (nh : Int)] 48)) (.cells #[.int .i64 0, .int .i64 0, .slice none 0 0] 57)
    unfold Hid
    simpa using this
  have HS0 : Hid (W0.heap.size = W.heap.size + 3) := by rw [← hW0]; simp [Hid]
  have HB0 := hide (hB.grown (unhide HG0))
  have HW := hide hW0
  obtain ⟨X, HX⟩ : ∃ X, Hid (growL L wd ht nw nh = X) := ⟨_, rfl⟩
  have HXL : Hid (X.length = m) := by unfold Hid; rw [← unhide HX, ← unhide HM]; exact gridL_len _ _ _
  dsimp only
  rw [unhide HX]
  clear hW0 hB hL h0 hok
  refine (callsIn_wide (n := 0)).1 ?_
  refine callsIn_of_wp_marks Try.func51 rfl trivial ?_ rfl
  refine wpIn_wide.2 ?_
  simp only [Try.ntmps51, List.size_toArray, List.length_cons, List.length_nil, Nat.reduceAdd, Nat.reduceSub, Array.replicate_succ, Array.replicate_zero, List.push_toArray, List.append_toArray, List.nil_append, List.cons_append]
  go_wp2_with fail
  rw [unhide HW]
  refine (newTones nw nh m hnw.2 hnh.2 HM W0).mono ?_
  rintro e w1 ⟨q, rfl, hQ, hge, g1⟩
  have HQL : Hid (q < w1.heap.size) := hQ.lt
  have HGE := hide hge
  obtain ⟨W1, hW1⟩ : ∃ W1, w1.alloc (.cells #[.int .i64 (nw : Int), .int .i64 (nh : Int), .slice (some ⟨q, 0, none⟩) m m] 57) = W1 := ⟨_, rfl⟩
  have G1 : Hid (W0.grownBy W1 none) := by rw [← hW1]; exact grown_alloc g1 _
  have HQ1 : Hid (Blk .u16 73 W1 q (laidTo X 0)) := by rw [← hW1, laidTo_zero, unhide HXL]; exact hQ.grown (World.grownBy_alloc _ _ _)
  have HB1 := hide ((unhide HB0).grown (unhide G1))
  have p0 := hide (grown_atG (unhide G1) (unhide b0) (by simp))
  have p1 := hide (grown_atG (unhide G1) (unhide b1) (by simp))
  have p2 := hide (grown_atG (unhide G1) (unhide b2) (by simp))
  have p3 : Hid (W1.heap[w1.heap.size]? = some (.cells #[.int .i64 (nw : Int), .int .i64 (nh : Int), .slice (some ⟨q, 0, none⟩) m m] 57 (0, 0))) := by rw [← hW1]; exact heap_alloc_new w1 _
  have HS1 : Hid (W.heap.size + 3 ≤ w1.heap.size) := by have := g1.size; have := unhide HS0; unfold Hid; omega
  have HW1 := hide hW1
  generalize hs : W.heap.size = s at *
  have HS := hide hs
  clear hs
  have c0 : W1.cell? ⟨s, 0, none⟩ = some (.int .i64 (wd : Int)) := by rw [cell_of_row W1 _ 0 _ _ (0, 0) (unhide p0)]; rfl
  have c1 : W1.cell? ⟨s, 1, none⟩ = some (.int .i64 (ht : Int)) := by rw [cell_of_row W1 _ 1 _ _ (0, 0) (unhide p0)]; rfl
  have c2 : W1.cell? ⟨s + 1, 0, none⟩ = some (.int .i64 (nw : Int)) := by rw [cell_of_row W1 _ 0 _ _ (0, 0) (unhide p1)]; rfl
  have c3 : W1.cell? ⟨s + 1, 1, none⟩ = some (.int .i64 (nh : Int)) := by rw [cell_of_row W1 _ 1 _ _ (0, 0) (unhide p1)]; rfl
  have d2 : (w1.alloc (.cells #[.int .i64 (nw : Int), .int .i64 (nh : Int), .slice (some ⟨q, 0, none⟩) m m] 57)).cell? ⟨s + 1, 0, none⟩ = some (.int .i64 (nw : Int)) := by rw [unhide HW1]; exact c2
  have d3 : (w1.alloc (.cells #[.int .i64 (nw : Int), .int .i64 (nh : Int), .slice (some ⟨q, 0, none⟩) m m] 57)).cell? ⟨s + 1, 1, none⟩ = some (.int .i64 (nh : Int)) := by rw [unhide HW1]; exact c3
  clear hQ hge g1 hW1 HB0 HW b0 b1 b2
  go_wp2_with fail
  rw [unhide HW1]
  generalize hs1 : w1.heap.size = s1 at *
  clear hs1 HW1 d2 d3
  have HQS : Hid (s + 3 ≤ q) := by have := unhide HGE; have := unhide HS0; unfold Hid; omega
  refine (callsIn_wide.1 (spots_in Fence.wide 0 trivial rfl _ _ _)).mono ?_
  rintro e w' ⟨rfl, rfl⟩
  obtain ⟨w8, hw8⟩ : ∃ w8, W1.alloc (.cells #[.int .i64 (nw : Int), .int .i64 (nh : Int)] 48) = w8 := ⟨_, rfl⟩
  have g8 : W1.grownBy w8 none := by rw [← hw8]; exact World.grownBy_alloc _ _ _
  have s8 : w8.heap.size = W1.heap.size + 1 := by rw [← hw8]; simp
  have BA8 : Hid (w8.heap[W1.heap.size]? = some (.cells #[.int .i64 (nw : Int), .int .i64 (nh : Int)] 48 (0, 0))) := by rw [← hw8]; exact heap_alloc_new _ _
  rw [hw8]
  have G8 := hide g8
  have HQ8 := hide ((unhide HQ1).grown g8)
  have HB8 := hide ((unhide HB1).grown g8)
  have r0 := hide (grown_atG g8 (unhide p0) (by simp))
  have r1 := hide (grown_atG g8 (unhide p1) (by simp))
  have r2 := hide (grown_atG g8 (unhide p2) (by simp))
  have r3 := hide (grown_atG g8 (unhide p3) (by simp))
  have HL1 : Hid (q < W1.heap.size ∧ s1 < W1.heap.size ∧ s + 3 ≤ s1) := ⟨(unhide HQ1).lt, (Array.getElem?_eq_some_iff.1 (unhide p3)).1, unhide HS1⟩
  have HS8 := hide s8
  clear hw8 g8 s8 HQ1 HB1 p0 p1 p2 p3 c0 c1 c2 c3
  go_wp2
  refine (wpIn_wide (n := 0)).1 ?_
  refine rangeFunc_gives (gf := 82) (lb := #[.pointer (some ⟨W1.heap.size, 0, none⟩)]) (O := fun k => k = q) rfl (enters_of Try.func82 (by kernel_rfl) rfl) (fun k hk => by have := unhide HL1; have := unhide HS8; omega)
    (spots_gives W1.heap.size nw nh (by omega) (by omega) _ w8 (unhide BA8) (fun e => by have := unhide HL1; omega)) (fun _ => rfl)
    (fun pre Wk => Blk .u16 73 Wk q (laidTo X pre.length)) (fun pre A A' h hk => h.same (hk q rfl)) (unhide HQ8) ?a1 ?assign ?body ?done
  case assign =>
    intro l' mm x Wa K hK
    gi_wp2
    exact hK
  case body =>
    intro l' mm pre x Wa hI hb hlen
    obtain ⟨hk1, hk2, hk3⟩ := spot_num hlen
    obtain ⟨y, xx⟩ := x
    dsimp only at hk1 hk2 hk3 ⊢
    have HK := hide hk1
    have HI := hide hI
    have HBB := hide hb
    have hok := unhide HOK
    have HNE : Hid (s ≠ q ∧ s + 1 ≠ q ∧ s1 ≠ q ∧ g ≠ q) := by have := unhide HQS; have := unhide HQL; have := unhide HGL; have := unhide HS; exact ⟨by omega, by omega, by omega, by omega⟩
    have l8 := unhide HL1
    have s8 := unhide HS8
    have y0 := hide ((hb.block s (by omega) (fun e => (unhide HNE).1 e)).trans (unhide r0))
    have y1 := hide ((hb.block (s + 1) (by omega) (fun e => (unhide HNE).2.1 e)).trans (unhide r1))
    have y3 := hide ((hb.block s1 (by omega) (fun e => (unhide HNE).2.2.1 e)).trans (unhide r3))
    have HBa : Hid (Blk .u16 73 Wa g L) := (unhide HB8).same (hb.block g (by have := unhide HGL; have := unhide HS; omega) (fun e => (unhide HNE).2.2.2 e))
    obtain ⟨a1, HA1⟩ : ∃ a : Nat, Hid (y * ht = a) := ⟨_, rfl⟩
    obtain ⟨a2, HA2⟩ : ∃ a : Nat, Hid (a1 / nh = a) := ⟨_, rfl⟩
    obtain ⟨a4, HA4⟩ : ∃ a : Nat, Hid (xx * wd = a) := ⟨_, rfl⟩
    obtain ⟨a5, HA5⟩ : ∃ a : Nat, Hid (a4 / nw = a) := ⟨_, rfl⟩
    obtain ⟨ix, HIX⟩ : ∃ i : Nat, Hid (a2 * wd + a5 = i) := ⟨_, rfl⟩
    have l1' : a1 ≤ 1048576 := by rw [← unhide HA1]; exact Nat.mul_le_mul (by omega : y ≤ 1024) (by omega : ht ≤ 1024)
    have l4 : a4 ≤ 1048576 := by rw [← unhide HA4]; exact Nat.mul_le_mul (by omega : xx ≤ 1024) (by omega : wd ≤ 1024)
    have l2 : a2 < ht := by
      rw [← unhide HA2, ← unhide HA1]
      exact Nat.div_lt_of_lt_mul (Nat.mul_lt_mul_of_pos_right hk2 (by omega))
    have l5 : a5 < wd := by
      rw [← unhide HA5, ← unhide HA4]
      exact Nat.div_lt_of_lt_mul (Nat.mul_lt_mul_of_pos_right hk3 (by omega))
    have hix : ix < n := by
      have h1 := row_end (w := wd) l2
      rw [Nat.mul_comm ht wd, unhide HN] at h1
      have := unhide HIX
      omega
    have hkm : pre.length < m := by
      have h1 := row_end (w := nw) hk2
      rw [Nat.mul_comm nh nw, unhide HM] at h1
      omega
    have k1 : IntKind.i64.wrap ((y : Int) * (ht : Int)) = (a1 : Int) := by
      have e : (y : Int) * (ht : Int) = (a1 : Int) := by have := unhide HA1; exact_mod_cast this
      rw [e, i64_in _ (by omega)]
    have k2 : (a1 : Int).tdiv (nh : Int) = (a2 : Int) := by
      rw [Int.tdiv_eq_ediv_of_nonneg (by omega)]
      have := unhide HA2
      exact_mod_cast this
    have k4 : IntKind.i64.wrap ((xx : Int) * (wd : Int)) = (a4 : Int) := by
      have e : (xx : Int) * (wd : Int) = (a4 : Int) := by have := unhide HA4; exact_mod_cast this
      rw [e, i64_in _ (by omega)]
    have k5 : (a4 : Int).tdiv (nw : Int) = (a5 : Int) := by
      rw [Int.tdiv_eq_ediv_of_nonneg (by omega)]
      have := unhide HA5
      exact_mod_cast this
    have k7 := i64_in (a2 : Int) (by omega)
    have k8 := i64_in (a5 : Int) (by omega)
    have z1 : ((nh : Int) == 0) = false := beq_eq_false_iff_ne.2 (by omega)
    have z2 : ((nh : Int) == -1) = false := beq_eq_false_iff_ne.2 (by omega)
    have z3 : ((nw : Int) == 0) = false := beq_eq_false_iff_ne.2 (by omega)
    have z4 : ((nw : Int) == -1) = false := beq_eq_false_iff_ne.2 (by omega)
    have z5 : ¬ nh = 0 := by omega
    have z6 : ¬ nw = 0 := by omega
    obtain ⟨z, HZ⟩ : ∃ z, Hid (L.getD ix 0 = z) := ⟨_, rfl⟩
    have HSET : Hid ((laidTo X pre.length).set pre.length z = laidTo X (pre.length + 1)) := by
      refine laidTo_set X pre.length (by rw [unhide HXL]; exact hkm) z ?_
      rw [← unhide HX, growL, ← unhide HK, gridL_at _ hk2 hk3, unhide HA1, unhide HA2, unhide HA4, unhide HA5, unhide HIX, unhide HZ]
    have hn1 : (pre ++ [(y, xx)]).length = pre.length + 1 := by simp
    rw [hn1]
    obtain ⟨pl, HPL⟩ : ∃ k, Hid (pre.length = k) := ⟨_, rfl⟩
    rw [unhide HPL] at HSET HK HI ⊢
    rw [unhide HPL] at hkm
    have HYK : Hid (y * nw + xx = pl) := HK
    clear hI hb hlen hk1 hn1 HPL
    gi_wp2
    refine wpIn_raw (fun W => W.heap[s]? = some (.cells #[.int .i64 (wd : Int), .int .i64 (ht : Int), .slice (some ⟨g, 0, none⟩) n n] 57 (0, 0)) ∧ W.heap[s1]? = some (.cells #[.int .i64 (nw : Int), .int .i64 (nh : Int), .slice (some ⟨q, 0, none⟩) m m] 57 (0, 0)) ∧ W.heap[s + 1]? = some (.cells #[.int .i64 (nw : Int), .int .i64 (nh : Int)] 48 (0, 0))) [true, true, true, true, true, true, true, true, true, true, true, true, true, true, true, true, true, true, true, true, true, true, true, true, false, false] (by kernel_rfl) (fun _ _ h => h) (fun _ _ _ _ _ h => h) rfl (by kernel_rfl) (by kernel_rfl) ⟨unhide y0, unhide y3, unhide y1⟩ ?_
    have z0 : Hid (Wa.drew.heap[s]? = _) := unhide y0
    have zz3 : Hid (Wa.drew.heap[s1]? = _) := unhide y3
    have zz1 : Hid (Wa.drew.heap[s + 1]? = _) := unhide y1
    have HBd : Hid (Blk .u16 73 Wa.drew g L) := unhide HBa
    have HId : Hid (Blk .u16 73 Wa.drew q (laidTo X pl)) := unhide HI
    have GD : Hid (Wa.grownBy Wa.drew none) := grown_drew (World.grownBy.refl _ _)
    generalize Wa.drew = Wd at *
    refine heldF_take (v := ?_) (Or.inl ⟨by rfl, ?_⟩) ?_
    rotate_left 1
    · intro w' hSw
      go_simp
      try with_reducible rfl
    try simp only [Act.put, List.setIfInBounds_toArray, List.set_cons_zero, List.set_cons_succ]
    refine heldF_take (v := .agg #[.int .i64 (nw : Int), .int .i64 (nh : Int), .slice (some ⟨q, 0, none⟩) m m]) (Or.inl ⟨by rfl, ?_⟩) ?_
    · intro w' hSw
      exact exec_row 55 _ rfl s1 rfl _ _ hSw.2.1 _ Try.underlying55 rfl (by kernel_rfl)
    try simp only [Act.put, List.setIfInBounds_toArray, List.set_cons_zero, List.set_cons_succ]
    refine heldF_take (v := ?_) (Or.inl ⟨by rfl, ?_⟩) ?_
    rotate_left 1
    · intro w' hSw
      go_simp
      try with_reducible rfl
    try simp only [Act.put, List.setIfInBounds_toArray, List.set_cons_zero, List.set_cons_succ]
    refine heldF_take (v := ?_) (Or.inl ⟨by rfl, ?_⟩) ?_
    rotate_left 1
    · intro w' hSw
      go_simp
      try with_reducible rfl
    try simp only [Act.put, List.setIfInBounds_toArray, List.set_cons_zero, List.set_cons_succ]
    refine heldF_take (v := ?_) (Or.inl ⟨by rfl, ?_⟩) ?_
    rotate_left 1
    · intro w' hSw
      go_simp
      try with_reducible rfl
    try simp only [Act.put, List.setIfInBounds_toArray, List.set_cons_zero, List.set_cons_succ]
    refine heldF_take (v := .agg #[.int .i64 (wd : Int), .int .i64 (ht : Int), .slice (some ⟨g, 0, none⟩) n n]) (Or.inl ⟨by rfl, ?_⟩) ?_
    · intro w' hSw
      exact exec_row 55 _ rfl s rfl _ _ hSw.1 _ Try.underlying55 rfl (by kernel_rfl)
    try simp only [Act.put, List.setIfInBounds_toArray, List.set_cons_zero, List.set_cons_succ]
    refine heldF_take (v := ?_) (Or.inl ⟨by rfl, ?_⟩) ?_
    rotate_left 1
    · intro w' hSw
      go_simp
      try with_reducible rfl
    try simp only [Act.put, List.setIfInBounds_toArray, List.set_cons_zero, List.set_cons_succ]
    refine heldF_take (v := ?_) (Or.inl ⟨by rfl, ?_⟩) ?_
    rotate_left 1
    · intro w' hSw
      go_simp
      try with_reducible rfl
    try simp only [Act.put, List.setIfInBounds_toArray, List.set_cons_zero, List.set_cons_succ]
    refine heldF_take (v := ?_) (Or.inl ⟨by rfl, ?_⟩) ?_
    rotate_left 1
    · intro w' hSw
      go_simp
      try with_reducible rfl
    try simp only [Act.put, List.setIfInBounds_toArray, List.set_cons_zero, List.set_cons_succ]
    refine heldF_take (v := ?_) (Or.inl ⟨by rfl, ?_⟩) ?_
    rotate_left 1
    · intro w' hSw
      go_simp
      try with_reducible rfl
    try simp only [Act.put, List.setIfInBounds_toArray, List.set_cons_zero, List.set_cons_succ]
    refine heldF_take (v := ?_) (Or.inl ⟨by rfl, ?_⟩) ?_
    rotate_left 1
    · intro w' hSw
      obtain ⟨q0, q3, q1⟩ := hSw
      have ca : w'.cell? ⟨s, 0, none⟩ = some (.int .i64 (wd : Int)) := by rw [cell_of_row w' _ 0 _ _ (0, 0) q0]; rfl
      have cb : w'.cell? ⟨s, 1, none⟩ = some (.int .i64 (ht : Int)) := by rw [cell_of_row w' _ 1 _ _ (0, 0) q0]; rfl
      have cc : w'.cell? ⟨s + 1, 0, none⟩ = some (.int .i64 (nw : Int)) := by rw [cell_of_row w' _ 0 _ _ (0, 0) q1]; rfl
      have cd : w'.cell? ⟨s + 1, 1, none⟩ = some (.int .i64 (nh : Int)) := by rw [cell_of_row w' _ 1 _ _ (0, 0) q1]; rfl
      go_simp
      try with_reducible rfl
    try simp only [Act.put, List.setIfInBounds_toArray, List.set_cons_zero, List.set_cons_succ]
    refine heldF_take (v := ?_) (Or.inl ⟨by rfl, ?_⟩) ?_
    rotate_left 1
    · intro w' hSw
      go_simp
      try with_reducible rfl
    try simp only [Act.put, List.setIfInBounds_toArray, List.set_cons_zero, List.set_cons_succ]
    refine heldF_take (v := ?_) (Or.inl ⟨by rfl, ?_⟩) ?_
    rotate_left 1
    · intro w' hSw
      go_simp
      try with_reducible rfl
    try simp only [Act.put, List.setIfInBounds_toArray, List.set_cons_zero, List.set_cons_succ]
    refine heldF_take (v := ?_) (Or.inl ⟨by rfl, ?_⟩) ?_
    rotate_left 1
    · intro w' hSw
      obtain ⟨q0, q3, q1⟩ := hSw
      have ca : w'.cell? ⟨s, 0, none⟩ = some (.int .i64 (wd : Int)) := by rw [cell_of_row w' _ 0 _ _ (0, 0) q0]; rfl
      have cb : w'.cell? ⟨s, 1, none⟩ = some (.int .i64 (ht : Int)) := by rw [cell_of_row w' _ 1 _ _ (0, 0) q0]; rfl
      have cc : w'.cell? ⟨s + 1, 0, none⟩ = some (.int .i64 (nw : Int)) := by rw [cell_of_row w' _ 0 _ _ (0, 0) q1]; rfl
      have cd : w'.cell? ⟨s + 1, 1, none⟩ = some (.int .i64 (nh : Int)) := by rw [cell_of_row w' _ 1 _ _ (0, 0) q1]; rfl
      go_simp
      try with_reducible rfl
    try simp only [Act.put, List.setIfInBounds_toArray, List.set_cons_zero, List.set_cons_succ]
    refine heldF_take (v := ?_) (Or.inl ⟨by rfl, ?_⟩) ?_
    rotate_left 1
    · intro w' hSw
      go_simp
      try with_reducible rfl
    try simp only [Act.put, List.setIfInBounds_toArray, List.set_cons_zero, List.set_cons_succ]
    refine heldF_take (v := ?_) (Or.inl ⟨by rfl, ?_⟩) ?_
    rotate_left 1
    · intro w' hSw
      go_simp
      try with_reducible rfl
    try simp only [Act.put, List.setIfInBounds_toArray, List.set_cons_zero, List.set_cons_succ]
    refine heldF_take (v := ?_) (Or.inl ⟨by rfl, ?_⟩) ?_
    rotate_left 1
    · intro w' hSw
      go_simp
      try with_reducible rfl
    try simp only [Act.put, List.setIfInBounds_toArray, List.set_cons_zero, List.set_cons_succ]
    refine heldF_take (v := ?_) (Or.inl ⟨by rfl, ?_⟩) ?_
    rotate_left 1
    · intro w' hSw
      go_simp
      try with_reducible rfl
    try simp only [Act.put, List.setIfInBounds_toArray, List.set_cons_zero, List.set_cons_succ]
    refine heldF_take (v := ?_) (Or.inl ⟨by rfl, ?_⟩) ?_
    rotate_left 1
    · intro w' hSw
      go_simp
      try with_reducible rfl
    try simp only [Act.put, List.setIfInBounds_toArray, List.set_cons_zero, List.set_cons_succ]
    refine heldF_take (v := ?_) (Or.inl ⟨by rfl, ?_⟩) ?_
    rotate_left 1
    · intro w' hSw
      obtain ⟨q0, q3, q1⟩ := hSw
      have ca : w'.cell? ⟨s, 0, none⟩ = some (.int .i64 (wd : Int)) := by rw [cell_of_row w' _ 0 _ _ (0, 0) q0]; rfl
      have cb : w'.cell? ⟨s, 1, none⟩ = some (.int .i64 (ht : Int)) := by rw [cell_of_row w' _ 1 _ _ (0, 0) q0]; rfl
      have cc : w'.cell? ⟨s + 1, 0, none⟩ = some (.int .i64 (nw : Int)) := by rw [cell_of_row w' _ 0 _ _ (0, 0) q1]; rfl
      have cd : w'.cell? ⟨s + 1, 1, none⟩ = some (.int .i64 (nh : Int)) := by rw [cell_of_row w' _ 1 _ _ (0, 0) q1]; rfl
      go_simp
      try with_reducible rfl
    try simp only [Act.put, List.setIfInBounds_toArray, List.set_cons_zero, List.set_cons_succ]
    refine heldF_take (v := ?_) (Or.inl ⟨by rfl, ?_⟩) ?_
    rotate_left 1
    · intro w' hSw
      go_simp
      try with_reducible rfl
    try simp only [Act.put, List.setIfInBounds_toArray, List.set_cons_zero, List.set_cons_succ]
    refine heldF_take (v := ?_) (Or.inl ⟨by rfl, ?_⟩) ?_
    rotate_left 1
    · intro w' hSw
      go_simp
      try with_reducible rfl
    try simp only [Act.put, List.setIfInBounds_toArray, List.set_cons_zero, List.set_cons_succ]
    refine heldF_take (v := ?_) (Or.inl ⟨by rfl, ?_⟩) ?_
    rotate_left 1
    · intro w' hSw
      obtain ⟨q0, q3, q1⟩ := hSw
      have ca : w'.cell? ⟨s, 0, none⟩ = some (.int .i64 (wd : Int)) := by rw [cell_of_row w' _ 0 _ _ (0, 0) q0]; rfl
      have cb : w'.cell? ⟨s, 1, none⟩ = some (.int .i64 (ht : Int)) := by rw [cell_of_row w' _ 1 _ _ (0, 0) q0]; rfl
      have cc : w'.cell? ⟨s + 1, 0, none⟩ = some (.int .i64 (nw : Int)) := by rw [cell_of_row w' _ 0 _ _ (0, 0) q1]; rfl
      have cd : w'.cell? ⟨s + 1, 1, none⟩ = some (.int .i64 (nh : Int)) := by rw [cell_of_row w' _ 1 _ _ (0, 0) q1]; rfl
      go_simp
      try with_reducible rfl
    try simp only [Act.put, List.setIfInBounds_toArray, List.set_cons_zero, List.set_cons_succ]
    refine heldF_take (v := ?_) (Or.inl ⟨by rfl, ?_⟩) ?_
    rotate_left 1
    · intro w' hSw
      go_simp
      try with_reducible rfl
    try simp only [Act.put, List.setIfInBounds_toArray, List.set_cons_zero, List.set_cons_succ]
    refine heldF_skip (heldF_skip (heldF_nil ?_))
    refine anyH_step1 (i := 24) rfl (by kernel_rfl) (fun K hK => ?_)
    go_simp
    refine (toneAt wd ht g n a2 a5 ix L (by omega) (by omega) (by omega) HIX hix (unhide HL) Wd (unhide HBd)).mono ?_
    rintro e w5 ⟨rfl, g5⟩
    rw [unhide HZ]
    refine hK.out _ _ ⟨grown_atG g5 (unhide z0) (by simp), grown_atG g5 (unhide zz3) (by simp), grown_atG g5 (unhide zz1) (by simp)⟩ ?_
    clear hK K
    try simp only [Act.put, List.setIfInBounds_toArray, List.set_cons_zero, List.set_cons_succ]
    refine anyH_step1 (i := 25) rfl (by kernel_rfl) (fun K hK => ?_)
    go_simp
    refine (tonePut nw nh q m y xx pl (laidTo X pl) z (by omega) (by omega) (by omega) HYK hkm (by rw [laidTo_len X pl (by have := unhide HXL; omega), unhide HXL]) w5 ((unhide HId).grown g5)).mono ?_
    rintro e w6 ⟨⟨v, rfl⟩, hQ6, g6⟩
    rw [unhide HSET] at hQ6
    refine hK.out _ _ ⟨grown_atG g6 (grown_atG g5 (unhide z0) (by simp)) (by have := unhide HNE; simp; omega), grown_atG g6 (grown_atG g5 (unhide zz3) (by simp)) (by have := unhide HNE; simp; omega), grown_atG g6 (grown_atG g5 (unhide zz1) (by simp)) (by have := unhide HNE; simp; omega)⟩ ?_
    clear hK K
    try simp only [Act.put, List.setIfInBounds_toArray, List.set_cons_zero, List.set_cons_succ]
    refine wpAnyH_done (by kernel_rfl) ?_ _
    have hBut : But (fun k => k = q) Wa w6 := (But.of_grown (grown_trans (unhide GD) g5) (fun k e => by cases e)).trans (But.of_grown g6 (fun k e => by cases e; rfl))
    exact (⟨hQ6, hBut⟩ : _ ∧ _)
  case done =>
    intro D W9 hD hi b9 hdef
    have hlen9 : (sTo nw nh).length = m := by rw [sTo_len, Nat.mul_comm]; exact unhide HM
    rw [hlen9, ← unhide HXL, laidTo_all] at hi
    have l8 := unhide HL1
    have s8 := unhide HS8
    have hqs := unhide HQS
    have hql := unhide HQL
    have x2 := hide ((b9.block (s + 1 + 1) (by omega) (by show ¬ s + 1 + 1 = q; omega)).trans (unhide r2))
    have x3 := hide ((b9.block s1 (by omega) (by show ¬ s1 = q; omega)).trans (unhide r3))
    have HI9 := hide hi
    have HB9 := hide b9
    have HDEF := hide hdef
    clear hi b9 hdef hlen9
    go_wp2_with (first | (refine load_row rfl 57 _ rfl s1 rfl #[.int .i64 (nw : Int), .int .i64 (nh : Int), .slice (some ⟨q, 0, none⟩) m m] 57 (unhide x3) _ Try.underlying57 rfl (by kernel_rfl) ?_) | (refine store_row rfl 57 _ _ rfl (s + 1 + 1) rfl #[.int .i64 (nw : Int), .int .i64 (nh : Int), .slice (some ⟨q, 0, none⟩) m m] rfl _ 57 (unhide x2) rfl (by kernel_rfl) (by simp [Value.oneCell']) ?_; intro w9 hBq g9))
    refine ⟨by simp, .inl ⟨_, _, rfl, run_takeDeferred (grown_atG g9 (unhide HDEF) (by simp; omega)), ?_⟩⟩
    have hBr : (w9.putObj D (.deferred none)).heap[s + 1 + 1]? = some (.cells #[.int .i64 (nw : Int), .int .i64 (nh : Int), .slice (some ⟨q, 0, none⟩) m m] 57 (0, 0)) := (World.putObj_heap_other (by omega)).trans hBq
    have gW : W.grownBy (w9.putObj D (.deferred none)) none := by
      have b9 := unhide HB9
      have gp := grownBy_putObj' w9 D (.deferred none)
      have gd := grown_trans (grown_trans (unhide HG0) (unhide G1)) (unhide G8)
      have hs := unhide HS
      refine ⟨gp.os.trans (g9.os.trans (b9.os.trans gd.os)), gp.tape.trans (g9.tape.trans (b9.tape.trans gd.tape)), gp.output.trans (g9.output.trans (b9.output.trans gd.output)), Nat.le_trans gd.size (Nat.le_trans b9.size (Nat.le_trans g9.size gp.size)), fun k hk _ => ?_⟩
      have hgd := gd.size
      rw [World.putObj_heap_other (by omega), g9.block k (by have := b9.size; omega) (by simp; omega), b9.block k (by omega) (by show ¬ k = q; omega)]
      exact gd.block k hk (by simp)
    have hQr : Blk .u16 73 (w9.putObj D (.deferred none)) q X := ((unhide HI9).beside g9 (by simp; omega)).same (World.putObj_heap_other (by omega))
    exact ⟨_, (by rw [results_c1 rfl]; simp only [Array.getD_eq_getD_getElem?]; exact run_loadVar_row _ _ 57 57 _ (0, 0) _ hBr Try.underlying57 rfl (by kernel_rfl)), q, rfl, hQr, gW⟩

end Go.Proofs.Ytkefpjbdkhifhaa

namespace Go.Proofs.Ytkefpjbdkhifhaa
open Go.RowKit Go.Shelf

theorem grid_vals {w h : Nat} {f : Nat → Nat → Int} {lo hi : Int} (hf : ∀ y x, y < h → x < w → lo ≤ f y x ∧ f y x ≤ hi) : ∀ v ∈ gridL w h f, lo ≤ v ∧ v ≤ hi := by
  intro v hv
  unfold gridL at hv
  obtain ⟨i, hi', rfl⟩ := List.mem_map.1 hv
  have hi2 : i < w * h := List.mem_range.1 hi'
  have hw : 0 < w := Nat.pos_of_ne_zero (fun e => by subst e; simp at hi2)
  exact hf _ _ (Nat.div_lt_of_lt_mul hi2) (Nat.mod_lt _ hw)
theorem tone_getD {L : List Int} (h0 : ∀ x ∈ L, 0 ≤ x ∧ x ≤ 4095) (i : Nat) : 0 ≤ L.getD i 0 ∧ L.getD i 0 ≤ 4095 := by
  by_cases hi : i < L.length
  · have e : L.getD i 0 = L[i] := by simp [hi]
    rw [e]
    exact h0 _ (List.getElem_mem hi)
  · have e : L.getD i 0 = 0 := by rw [List.getD_eq_getElem?_getD, List.getElem?_eq_none (by omega)]; rfl
    rw [e]
    omega
theorem down_sides {zs : List Int} {w h nw nh : Int} (h1 : nw ≤ w) (h2 : nh ≤ h) : (planeB zs w h && decide (1 ≤ nw ∧ nw ≤ w) && decide (1 ≤ nh ∧ nh ≤ h)) = (planeB zs w h && sidesB nw nh) := by
  cases hp : planeB zs w h with
  | false => rfl
  | true =>
    obtain ⟨a1, a2, _, a4, _⟩ := plane_of hp
    by_cases c1 : 1 ≤ nw
    · by_cases c2 : 1 ≤ nh
      · have hm : nw * nh ≤ w * h := Int.mul_le_mul h1 h2 (by omega) (by omega)
        simp [sidesB, c1, c2, h1, h2]
        omega
      · simp [sidesB, c2]
    · simp [sidesB, c1]

set_option maxRecDepth 20000 in
set_option maxHeartbeats 1600000 in
theorem implCrop (ao : Option Addr) (n cap : Nat) (zs : List Int) (w h nw nh : Int) (W : World) (hr : Rd .i64 W ao n zs) (hn : n ≤ 9223372036854775807) (L : List Int) (HL : Hid (cropG zs w h nw nh = L)) :
    Calls Try.prog 29 #[.slice ao n cap, .int .i64 w, .int .i64 h, .int .i64 nw, .int .i64 nh] W fun e W' => ∃ so sc, e = .returned (.slice so L.length sc) ∧ W'.ownsRow W.heap.size 3 1 (.slice so L.length sc) L.length (L.map (Value.int .i64)) ∧ W.grownBy W' none := by
  obtain ⟨t, HT⟩ : ∃ t, Hid ((decide (nw ≤ w) && decide (nh ≤ h)) = t) := ⟨_, rfl⟩
  have HR := hide hr
  clear hr
  obtain ⟨W0, hW0⟩ : ∃ W0, (W.alloc (.cells #[.int .i64 w, .int .i64 h] 48)).alloc (.cells #[.int .i64 nw, .int .i64 nh] 48) = W0 := ⟨_, rfl⟩
  have HG0 : Hid (W.grownBy W0 none) := by rw [← hW0]; exact grown_alloc (World.grownBy_alloc _ _ _) _
  have b0 : Hid (W0.heap[W.heap.size]? = some (.cells #[.int .i64 w, .int .i64 h] 48 (0, 0))) := by rw [← hW0, Below.heap_alloc _ _ _ (by simp)]; exact heap_alloc_new W _
  have b1 : Hid (W0.heap[W.heap.size + 1]? = some (.cells #[.int .i64 nw, .int .i64 nh] 48 (0, 0))) := by
    rw [← hW0]
    have := heap_alloc_new (W.alloc (.cells #[.int .i64 w, .int .i64 h] 48)) (.cells #[.int .i64 nw, .int .i64 nh] 48)
    unfold Hid
    simpa using this
  have HW := hide hW0
  clear hW0
  go_enter Try.func29, Try.ntmps29
  go_wp2_with fail
  rw [unhide HW]
  refine (covers w h nw nh t HT W0).mono ?_
  rintro e w1 ⟨rfl, g1⟩
  have HG1 := hide (grown_trans (unhide HG0) g1)
  have q0 := grown_atG g1 (unhide b0) (by simp)
  have q1 := grown_atG g1 (unhide b1) (by simp)
  have k0 : w1.cell? ⟨W.heap.size, 0, none⟩ = some (.int .i64 w) := by rw [cell_of_row w1 _ 0 _ _ (0, 0) q0]; rfl
  have k1 : w1.cell? ⟨W.heap.size, 1, none⟩ = some (.int .i64 h) := by rw [cell_of_row w1 _ 1 _ _ (0, 0) q0]; rfl
  have k2 : w1.cell? ⟨W.heap.size + 1, 0, none⟩ = some (.int .i64 nw) := by rw [cell_of_row w1 _ 0 _ _ (0, 0) q1]; rfl
  have k3 : w1.cell? ⟨W.heap.size + 1, 1, none⟩ = some (.int .i64 nh) := by rw [cell_of_row w1 _ 1 _ _ (0, 0) q1]; rfl
  clear g1 q0 q1 b0 b1 HW
  cases t with
  | false =>
    obtain rfl : L = [] := by
      rw [← unhide HL, cropG]
      have h1 := unhide HT
      rw [if_neg]
      intro e
      simp only [Bool.and_eq_true, decide_eq_true_eq, Bool.and_eq_false_iff, decide_eq_false_iff_not] at e h1
      omega
    go_wp2
    go_ret
    exact ⟨none, 0, rfl, ⟨rfl, .inl ⟨rfl, rfl⟩⟩, unhide HG1⟩
  | true =>
    have hc := unhide HT
    simp only [Bool.and_eq_true, decide_eq_true_eq] at hc
    have HC := hide hc
    have HL' : Hid ((if planeB zs w h && sidesB nw nh then (fun L wd _ nw nh => cropL L wd nw nh) zs w.toNat h.toNat nw.toNat nh.toNat else []) = L) := by
      unfold Hid
      rw [← unhide HL, cropG]
      rw [down_sides (unhide HC).1 (unhide HC).2]
    clear hc
    go_wp2_with fail
    refine (remade 67 (fun wd ht nw nh => nw ≤ wd ∧ nh ≤ ht) (fun L wd _ nw nh => cropL L wd nw nh) cropped (enters_of Try.func67 (by kernel_rfl) rfl) ao n cap zs w h nw nh w1 ((unhide HR).grown (unhide HG1)) hn (by have := unhide HC; show _ ∧ _; omega) ?_ L HL').mono ?_
    · intro wd ht nw' nh' hok hlen h1 h2 h0
      have hok' : _ ∧ _ := hok
      refine ⟨gridL_len _ _ _, ?_⟩
      exact grid_vals (fun y x _ _ => tone_getD h0 _)
    · rintro e w2 ⟨so, sc, rfl, o2, g2⟩
      have HO := hide (own_base o2 (unhide HG1).size)
      have HG2 := hide (grown_trans (unhide HG1) g2)
      clear o2 g2
      go_wp2
      go_ret
      exact ⟨_, _, rfl, unhide HO, unhide HG2⟩

set_option maxRecDepth 20000 in
set_option maxHeartbeats 1600000 in
theorem implShrink (ao : Option Addr) (n cap : Nat) (zs : List Int) (w h nw nh : Int) (W : World) (hr : Rd .i64 W ao n zs) (hn : n ≤ 9223372036854775807) (L : List Int) (HL : Hid (shrinkG zs w h nw nh = L)) :
    Calls Try.prog 14 #[.slice ao n cap, .int .i64 w, .int .i64 h, .int .i64 nw, .int .i64 nh] W fun e W' => ∃ so sc, e = .returned (.slice so L.length sc) ∧ W'.ownsRow W.heap.size 3 1 (.slice so L.length sc) L.length (L.map (Value.int .i64)) ∧ W.grownBy W' none := by
  obtain ⟨t, HT⟩ : ∃ t, Hid ((decide (nw ≤ w) && decide (nh ≤ h)) = t) := ⟨_, rfl⟩
  have HR := hide hr
  clear hr
  obtain ⟨W0, hW0⟩ : ∃ W0, (W.alloc (.cells #[.int .i64 w, .int .i64 h] 48)).alloc (.cells #[.int .i64 nw, .int .i64 nh] 48) = W0 := ⟨_, rfl⟩
  have HG0 : Hid (W.grownBy W0 none) := by rw [← hW0]; exact grown_alloc (World.grownBy_alloc _ _ _) _
  have b0 : Hid (W0.heap[W.heap.size]? = some (.cells #[.int .i64 w, .int .i64 h] 48 (0, 0))) := by rw [← hW0, Below.heap_alloc _ _ _ (by simp)]; exact heap_alloc_new W _
  have b1 : Hid (W0.heap[W.heap.size + 1]? = some (.cells #[.int .i64 nw, .int .i64 nh] 48 (0, 0))) := by
    rw [← hW0]
    have := heap_alloc_new (W.alloc (.cells #[.int .i64 w, .int .i64 h] 48)) (.cells #[.int .i64 nw, .int .i64 nh] 48)
    unfold Hid
    simpa using this
  have HW := hide hW0
  clear hW0
  go_enter Try.func14, Try.ntmps14
  go_wp2_with fail
  rw [unhide HW]
  refine (covers w h nw nh t HT W0).mono ?_
  rintro e w1 ⟨rfl, g1⟩
  have HG1 := hide (grown_trans (unhide HG0) g1)
  have q0 := grown_atG g1 (unhide b0) (by simp)
  have q1 := grown_atG g1 (unhide b1) (by simp)
  have k0 : w1.cell? ⟨W.heap.size, 0, none⟩ = some (.int .i64 w) := by rw [cell_of_row w1 _ 0 _ _ (0, 0) q0]; rfl
  have k1 : w1.cell? ⟨W.heap.size, 1, none⟩ = some (.int .i64 h) := by rw [cell_of_row w1 _ 1 _ _ (0, 0) q0]; rfl
  have k2 : w1.cell? ⟨W.heap.size + 1, 0, none⟩ = some (.int .i64 nw) := by rw [cell_of_row w1 _ 0 _ _ (0, 0) q1]; rfl
  have k3 : w1.cell? ⟨W.heap.size + 1, 1, none⟩ = some (.int .i64 nh) := by rw [cell_of_row w1 _ 1 _ _ (0, 0) q1]; rfl
  clear g1 q0 q1 b0 b1 HW
  cases t with
  | false =>
    obtain rfl : L = [] := by
      rw [← unhide HL, shrinkG]
      have h1 := unhide HT
      rw [if_neg]
      intro e
      simp only [Bool.and_eq_true, decide_eq_true_eq, Bool.and_eq_false_iff, decide_eq_false_iff_not] at e h1
      omega
    go_wp2
    go_ret
    exact ⟨none, 0, rfl, ⟨rfl, .inl ⟨rfl, rfl⟩⟩, unhide HG1⟩
  | true =>
    have hc := unhide HT
    simp only [Bool.and_eq_true, decide_eq_true_eq] at hc
    have HC := hide hc
    have HL' : Hid ((if planeB zs w h && sidesB nw nh then (fun L wd ht nw nh => shrinkL L wd ht nw nh) zs w.toNat h.toNat nw.toNat nh.toNat else []) = L) := by
      unfold Hid
      rw [← unhide HL, shrinkG]
      rw [down_sides (unhide HC).1 (unhide HC).2]
    clear hc
    go_wp2_with fail
    refine (remade 46 (fun wd ht nw nh => nw ≤ wd ∧ nh ≤ ht) (fun L wd ht nw nh => shrinkL L wd ht nw nh) shrunk (enters_of Try.func46 (by kernel_rfl) rfl) ao n cap zs w h nw nh w1 ((unhide HR).grown (unhide HG1)) hn (by have := unhide HC; show _ ∧ _; omega) ?_ L HL').mono ?_
    · intro wd ht nw' nh' hok hlen h1 h2 h0
      have hok' : _ ∧ _ := hok
      refine ⟨gridL_len _ _ _, ?_⟩
      exact grid_vals (fun y x hy hx => shrink_in hlen h1 h2 h0 hy hx)
    · rintro e w2 ⟨so, sc, rfl, o2, g2⟩
      have HO := hide (own_base o2 (unhide HG1).size)
      have HG2 := hide (grown_trans (unhide HG1) g2)
      clear o2 g2
      go_wp2
      go_ret
      exact ⟨_, _, rfl, unhide HO, unhide HG2⟩

set_option maxRecDepth 20000 in
set_option maxHeartbeats 1600000 in
theorem implGrow (ao : Option Addr) (n cap : Nat) (zs : List Int) (w h nw nh : Int) (W : World) (hr : Rd .i64 W ao n zs) (hn : n ≤ 9223372036854775807) (L : List Int) (HL : Hid (growG zs w h nw nh = L)) :
    Calls Try.prog 19 #[.slice ao n cap, .int .i64 w, .int .i64 h, .int .i64 nw, .int .i64 nh] W fun e W' => ∃ so sc, e = .returned (.slice so L.length sc) ∧ W'.ownsRow W.heap.size 3 1 (.slice so L.length sc) L.length (L.map (Value.int .i64)) ∧ W.grownBy W' none := by
  obtain ⟨t, HT⟩ : ∃ t, Hid ((decide (w ≤ nw) && decide (h ≤ nh)) = t) := ⟨_, rfl⟩
  have HR := hide hr
  clear hr
  obtain ⟨W0, hW0⟩ : ∃ W0, (W.alloc (.cells #[.int .i64 w, .int .i64 h] 48)).alloc (.cells #[.int .i64 nw, .int .i64 nh] 48) = W0 := ⟨_, rfl⟩
  have HG0 : Hid (W.grownBy W0 none) := by rw [← hW0]; exact grown_alloc (World.grownBy_alloc _ _ _) _
  have b0 : Hid (W0.heap[W.heap.size]? = some (.cells #[.int .i64 w, .int .i64 h] 48 (0, 0))) := by rw [← hW0, Below.heap_alloc _ _ _ (by simp)]; exact heap_alloc_new W _
  have b1 : Hid (W0.heap[W.heap.size + 1]? = some (.cells #[.int .i64 nw, .int .i64 nh] 48 (0, 0))) := by
    rw [← hW0]
    have := heap_alloc_new (W.alloc (.cells #[.int .i64 w, .int .i64 h] 48)) (.cells #[.int .i64 nw, .int .i64 nh] 48)
    unfold Hid
    simpa using this
  have HW := hide hW0
  clear hW0
  go_enter Try.func19, Try.ntmps19
  go_wp2_with fail
  rw [unhide HW]
  refine (covers nw nh w h t HT W0).mono ?_
  rintro e w1 ⟨rfl, g1⟩
  have HG1 := hide (grown_trans (unhide HG0) g1)
  have q0 := grown_atG g1 (unhide b0) (by simp)
  have q1 := grown_atG g1 (unhide b1) (by simp)
  have k0 : w1.cell? ⟨W.heap.size, 0, none⟩ = some (.int .i64 w) := by rw [cell_of_row w1 _ 0 _ _ (0, 0) q0]; rfl
  have k1 : w1.cell? ⟨W.heap.size, 1, none⟩ = some (.int .i64 h) := by rw [cell_of_row w1 _ 1 _ _ (0, 0) q0]; rfl
  have k2 : w1.cell? ⟨W.heap.size + 1, 0, none⟩ = some (.int .i64 nw) := by rw [cell_of_row w1 _ 0 _ _ (0, 0) q1]; rfl
  have k3 : w1.cell? ⟨W.heap.size + 1, 1, none⟩ = some (.int .i64 nh) := by rw [cell_of_row w1 _ 1 _ _ (0, 0) q1]; rfl
  clear g1 q0 q1 b0 b1 HW
  cases t with
  | false =>
    obtain rfl : L = [] := by
      rw [← unhide HL, growG]
      have h1 := unhide HT
      rw [if_neg]
      intro e
      simp only [Bool.and_eq_true, decide_eq_true_eq, Bool.and_eq_false_iff, decide_eq_false_iff_not] at e h1
      omega
    go_wp2
    go_ret
    exact ⟨none, 0, rfl, ⟨rfl, .inl ⟨rfl, rfl⟩⟩, unhide HG1⟩
  | true =>
    have hc := unhide HT
    simp only [Bool.and_eq_true, decide_eq_true_eq] at hc
    have HC := hide hc
    have HL' : Hid ((if planeB zs w h && sidesB nw nh then (fun L wd ht nw nh => growL L wd ht nw nh) zs w.toNat h.toNat nw.toNat nh.toNat else []) = L) := by
      unfold Hid
      rw [← unhide HL, growG]
      cases hp : planeB zs w h <;> cases hs : sidesB nw nh <;> simp [(unhide HC).1, (unhide HC).2]
    clear hc
    go_wp2_with fail
    refine (remade 51 (fun wd ht nw nh => wd ≤ nw ∧ ht ≤ nh) (fun L wd ht nw nh => growL L wd ht nw nh) grown (enters_of Try.func51 (by kernel_rfl) rfl) ao n cap zs w h nw nh w1 ((unhide HR).grown (unhide HG1)) hn (by have := unhide HC; show _ ∧ _; omega) ?_ L HL').mono ?_
    · intro wd ht nw' nh' hok hlen h1 h2 h0
      have hok' : _ ∧ _ := hok
      refine ⟨gridL_len _ _ _, ?_⟩
      exact grid_vals (fun y x _ _ => tone_getD h0 _)
    · rintro e w2 ⟨so, sc, rfl, o2, g2⟩
      have HO := hide (own_base o2 (unhide HG1).size)
      have HG2 := hide (grown_trans (unhide HG1) g2)
      clear o2 g2
      go_wp2
      go_ret
      exact ⟨_, _, rfl, unhide HO, unhide HG2⟩

set_option maxRecDepth 20000 in
set_option maxHeartbeats 1600000 in
theorem implPad (ao : Option Addr) (n cap : Nat) (zs : List Int) (w h nw nh : Int) (W : World) (hr : Rd .i64 W ao n zs) (hn : n ≤ 9223372036854775807) (L : List Int) (HL : Hid (padG zs w h nw nh = L)) :
    Calls Try.prog 27 #[.slice ao n cap, .int .i64 w, .int .i64 h, .int .i64 nw, .int .i64 nh] W fun e W' => ∃ so sc, e = .returned (.slice so L.length sc) ∧ W'.ownsRow W.heap.size 3 1 (.slice so L.length sc) L.length (L.map (Value.int .i64)) ∧ W.grownBy W' none := by
  obtain ⟨t, HT⟩ : ∃ t, Hid ((decide (w ≤ nw) && decide (h ≤ nh)) = t) := ⟨_, rfl⟩
  have HR := hide hr
  clear hr
  obtain ⟨W0, hW0⟩ : ∃ W0, (W.alloc (.cells #[.int .i64 w, .int .i64 h] 48)).alloc (.cells #[.int .i64 nw, .int .i64 nh] 48) = W0 := ⟨_, rfl⟩
  have HG0 : Hid (W.grownBy W0 none) := by rw [← hW0]; exact grown_alloc (World.grownBy_alloc _ _ _) _
  have b0 : Hid (W0.heap[W.heap.size]? = some (.cells #[.int .i64 w, .int .i64 h] 48 (0, 0))) := by rw [← hW0, Below.heap_alloc _ _ _ (by simp)]; exact heap_alloc_new W _
  have b1 : Hid (W0.heap[W.heap.size + 1]? = some (.cells #[.int .i64 nw, .int .i64 nh] 48 (0, 0))) := by
    rw [← hW0]
    have := heap_alloc_new (W.alloc (.cells #[.int .i64 w, .int .i64 h] 48)) (.cells #[.int .i64 nw, .int .i64 nh] 48)
    unfold Hid
    simpa using this
  have HW := hide hW0
  clear hW0
  go_enter Try.func27, Try.ntmps27
  go_wp2_with fail
  rw [unhide HW]
  refine (covers nw nh w h t HT W0).mono ?_
  rintro e w1 ⟨rfl, g1⟩
  have HG1 := hide (grown_trans (unhide HG0) g1)
  have q0 := grown_atG g1 (unhide b0) (by simp)
  have q1 := grown_atG g1 (unhide b1) (by simp)
  have k0 : w1.cell? ⟨W.heap.size, 0, none⟩ = some (.int .i64 w) := by rw [cell_of_row w1 _ 0 _ _ (0, 0) q0]; rfl
  have k1 : w1.cell? ⟨W.heap.size, 1, none⟩ = some (.int .i64 h) := by rw [cell_of_row w1 _ 1 _ _ (0, 0) q0]; rfl
  have k2 : w1.cell? ⟨W.heap.size + 1, 0, none⟩ = some (.int .i64 nw) := by rw [cell_of_row w1 _ 0 _ _ (0, 0) q1]; rfl
  have k3 : w1.cell? ⟨W.heap.size + 1, 1, none⟩ = some (.int .i64 nh) := by rw [cell_of_row w1 _ 1 _ _ (0, 0) q1]; rfl
  clear g1 q0 q1 b0 b1 HW
  cases t with
  | false =>
    obtain rfl : L = [] := by
      rw [← unhide HL, padG]
      have h1 := unhide HT
      rw [if_neg]
      intro e
      simp only [Bool.and_eq_true, decide_eq_true_eq, Bool.and_eq_false_iff, decide_eq_false_iff_not] at e h1
      omega
    go_wp2
    go_ret
    exact ⟨none, 0, rfl, ⟨rfl, .inl ⟨rfl, rfl⟩⟩, unhide HG1⟩
  | true =>
    have hc := unhide HT
    simp only [Bool.and_eq_true, decide_eq_true_eq] at hc
    have HC := hide hc
    have HL' : Hid ((if planeB zs w h && sidesB nw nh then (fun L wd ht nw nh => padL L wd ht nw nh) zs w.toNat h.toNat nw.toNat nh.toNat else []) = L) := by
      unfold Hid
      rw [← unhide HL, padG]
      cases hp : planeB zs w h <;> cases hs : sidesB nw nh <;> simp [(unhide HC).1, (unhide HC).2]
    clear hc
    go_wp2_with fail
    refine (remade 65 (fun wd ht nw nh => wd ≤ nw ∧ ht ≤ nh) (fun L wd ht nw nh => padL L wd ht nw nh) padded (enters_of Try.func65 (by kernel_rfl) rfl) ao n cap zs w h nw nh w1 ((unhide HR).grown (unhide HG1)) hn (by have := unhide HC; show _ ∧ _; omega) ?_ L HL').mono ?_
    · intro wd ht nw' nh' hok hlen h1 h2 h0
      have hok' : _ ∧ _ := hok
      refine ⟨gridL_len _ _ _, ?_⟩
      exact grid_vals (fun y x _ _ => tone_getD h0 _)
    · rintro e w2 ⟨so, sc, rfl, o2, g2⟩
      have HO := hide (own_base o2 (unhide HG1).size)
      have HG2 := hide (grown_trans (unhide HG1) g2)
      clear o2 g2
      go_wp2
      go_ret
      exact ⟨_, _, rfl, unhide HO, unhide HG2⟩

end Go.Proofs.Ytkefpjbdkhifhaa

namespace Go.Proofs.Ytkefpjbdkhifhaa
open Go.RowKit

theorem specFloor16 (n d u : Int) (hn : 0 ≤ n ∧ n ≤ 4000000000000) (hd : 1 ≤ d ∧ d ≤ 4000000000000) (hu : Hid (n / d = u)) (w : World) :
    Calls Try.prog 77 #[.int .i64 n, .int .i64 d] w fun e w' => e = .returned (.int .i64 u) ∧ w = w' := by
  have h0 : decide (0 ≤ n) = true := decide_eq_true hn.1
  have hd0 : ¬ d = 0 := by omega
  have hd1 : (d == 0) = false := beq_eq_false_iff_ne.2 hd0
  have ht : n.tdiv d = u := by rw [Int.tdiv_eq_ediv_of_nonneg hn.1]; exact unhide hu
  have hb : 0 ≤ u ∧ u ≤ n := by
    rw [← unhide hu]
    exact ⟨Int.ediv_nonneg hn.1 (by omega), Int.ediv_le_self _ hn.1⟩
  have hw := i64_in u (by omega)
  go_enter Try.func77, Try.ntmps77
  go_wp2
  go_ret
  exact ⟨rfl, rfl⟩

theorem specMean (s : Int) (n : Nat) (u : Int) (hs : 0 ≤ s ∧ s ≤ 1000000000000) (hn : 1 ≤ n ∧ n ≤ 1000000000) (hu : Hid (meanI s n = u)) (w : World) :
    Calls Try.prog 49 #[.int .i64 s, .int .i64 (n : Int)] w fun e w' => e = .returned (.int .i64 u) ∧ w = w' := by
  obtain ⟨a, HA⟩ : ∃ a : Int, Hid (2 * s + (n : Int) = a) := ⟨_, rfl⟩
  obtain ⟨d, HD⟩ : ∃ d : Int, Hid (2 * (n : Int) = d) := ⟨_, rfl⟩
  have hu' : Hid (a / d = u) := by
    have h := unhide hu
    unfold meanI at h
    rw [unhide HA, unhide HD] at h
    exact h
  have k1 : IntKind.i64.wrap (2 * s) = 2 * s := i64_in _ (by omega)
  have k2 : IntKind.i64.wrap (2 * s + (n : Int)) = a := by rw [i64_in _ (by omega)]; exact unhide HA
  have k3 : IntKind.i64.wrap (2 * (n : Int)) = d := by rw [i64_in _ (by omega)]; exact unhide HD
  have b1 : 0 ≤ a ∧ a ≤ 4000000000000 := by have := unhide HA; omega
  have b2 : 1 ≤ d ∧ d ≤ 4000000000000 := by have := unhide HD; omega
  go_enter Try.func49, Try.ntmps49
  go_wp2_with fail
  refine (specFloor16 a d u b1 b2 hu' w).mono ?_
  rintro e w1 ⟨rfl, rfl⟩
  go_wp2
  go_ret
  exact ⟨rfl, rfl⟩
end Go.Proofs.Ytkefpjbdkhifhaa
