/-
  Planes that are made smaller, in the program (written by gen_tone3.py).
-/
import Derived.Test.YtkefpjbdkhifhaaToneMake
import Derived.Test.YtkefpjbdkhifhaaToneCopy
import Derived.Test.YtkefpjbdkhifhaaToneCols
namespace Go.Proofs.Ytkefpjbdkhifhaa
open Go.RowKit

set_option maxRecDepth 20000 in
set_option maxHeartbeats 6400000 in
theorem shrunk : TurnC 46 (fun wd ht nw nh => nw ≤ wd ∧ nh ≤ ht) (fun L wd ht nw nh => shrinkL L wd ht nw nh) := by
  intro wd ht g n nw nh m L W hw hh HN hn hnw hnh HM hm hok hB hL h0
  have HL := hide hL
  have H0 := hide h0
  have HOK := hide hok
  have HGL : Hid (g < W.heap.size) := hB.lt
  obtain ⟨W0, hW0⟩ : ∃ W0, ((W.alloc (.cells #[.int .i64 (wd : Int), .int .i64 (ht : Int), .slice (some ⟨g, 0, none⟩) n n] 57)).alloc (.cells #[.int .i64 (nw : Int), .int .i64 (nh : Int)] 48)).alloc (.cells #[.int .i64 0, .int .i64 0, .slice none 0 0] 57) = W0 := ⟨_, rfl⟩
  have HG0 : Hid (W.grownBy W0 none) := by rw [← hW0]; exact grown_alloc (grown_alloc (World.grownBy_alloc _ _ _) _) _
  have b0 : Hid (W0.heap[W.heap.size]? = some (.cells #[.int .i64 (wd : Int), .int .i64 (ht : Int), .slice (some ⟨g, 0, none⟩) n n] 57 (0, 0))) := by rw [← hW0, Below.heap_alloc _ _ _ (by simp <;> omega), Below.heap_alloc _ _ _ (by simp)]; exact heap_alloc_new W _
  have b1 : Hid (W0.heap[W.heap.size + 1]? = some (.cells #[.int .i64 (nw : Int), .int .i64 (nh : Int)] 48 (0, 0))) := by
    rw [← hW0, Below.heap_alloc _ _ _ (by simp)]
    have := heap_alloc_new (W.alloc (.cells #[.int .i64 (wd : Int), .int .i64 (ht : Int), .slice (some ⟨g, 0, none⟩) n n] 57)) (.cells #[.int .i64 (nw : Int), .int .i64 (nh : Int)] 48)
    unfold Hid
    simpa using this
  have b2 : Hid (W0.heap[W.heap.size + 1 + 1]? = some (.cells #[.int .i64 0, .int .i64 0, .slice none 0 0] 57 (0, 0))) := by
    rw [← hW0]
    have := heap_alloc_new ((W.alloc (.cells #[.int .i64 (wd : Int), .int .i64 (ht : Int), .slice (some ⟨g, 0, none⟩) n n] 57)).alloc (.cells #[.int .i64 (nw : Int), .int .i64 (nh : Int)] 48)) (.cells #[.int .i64 0, .int .i64 0, .slice none 0 0] 57)
    unfold Hid
    simpa using this
  have HS0 : Hid (W0.heap.size = W.heap.size + 3) := by rw [← hW0]; simp [Hid]
  have HB0 := hide (hB.grown (unhide HG0))
  have HW := hide hW0
  obtain ⟨X, HX⟩ : ∃ X, Hid (shrinkL L wd ht nw nh = X) := ⟨_, rfl⟩
  have HXL : Hid (X.length = m) := by unfold Hid; rw [← unhide HX, ← unhide HM]; exact gridL_len _ _ _
  dsimp only
  rw [unhide HX]
  clear hW0 hB hL h0 hok
  go_enter Try.func46, Try.ntmps46
  go_wp2_with fail
  rw [unhide HW]
  refine (newTones nw nh m hnw.2 hnh.2 HM W0).mono ?_
  rintro e w1 ⟨q, rfl, hQ, hge, g1⟩
  have HQL : Hid (q < w1.heap.size) := hQ.lt
  have HGE := hide hge
  obtain ⟨W1, hW1⟩ : ∃ W1, w1.alloc (.cells #[.int .i64 (nw : Int), .int .i64 (nh : Int), .slice (some ⟨q, 0, none⟩) m m] 57) = W1 := ⟨_, rfl⟩
  have G1 : Hid (W0.grownBy W1 none) := by rw [← hW1]; exact grown_alloc g1 _
  have HQ1 : Hid (Blk .u16 73 W1 q (laidTo X 0)) := by rw [← hW1, laidTo_zero, unhide HXL]; exact hQ.grown (World.grownBy_alloc _ _ _)
  have HB1 := hide ((unhide HB0).grown (unhide G1))
  have p0 := hide (grown_atG (unhide G1) (unhide b0) (by simp))
  have p1 := hide (grown_atG (unhide G1) (unhide b1) (by simp))
  have p2 := hide (grown_atG (unhide G1) (unhide b2) (by simp))
  have p3 : Hid (W1.heap[w1.heap.size]? = some (.cells #[.int .i64 (nw : Int), .int .i64 (nh : Int), .slice (some ⟨q, 0, none⟩) m m] 57 (0, 0))) := by rw [← hW1]; exact heap_alloc_new w1 _
  have HS1 : Hid (W.heap.size + 3 ≤ w1.heap.size) := by have := g1.size; have := unhide HS0; unfold Hid; omega
  have HW1 := hide hW1
  generalize hs : W.heap.size = s at *
  have HS := hide hs
  clear hs
  have c0 : W1.cell? ⟨s, 0, none⟩ = some (.int .i64 (wd : Int)) := by rw [cell_of_row W1 _ 0 _ _ (0, 0) (unhide p0)]; rfl
  have c1 : W1.cell? ⟨s, 1, none⟩ = some (.int .i64 (ht : Int)) := by rw [cell_of_row W1 _ 1 _ _ (0, 0) (unhide p0)]; rfl
  have c2 : W1.cell? ⟨s + 1, 0, none⟩ = some (.int .i64 (nw : Int)) := by rw [cell_of_row W1 _ 0 _ _ (0, 0) (unhide p1)]; rfl
  have c3 : W1.cell? ⟨s + 1, 1, none⟩ = some (.int .i64 (nh : Int)) := by rw [cell_of_row W1 _ 1 _ _ (0, 0) (unhide p1)]; rfl
  have d2 : (w1.alloc (.cells #[.int .i64 (nw : Int), .int .i64 (nh : Int), .slice (some ⟨q, 0, none⟩) m m] 57)).cell? ⟨s + 1, 0, none⟩ = some (.int .i64 (nw : Int)) := by rw [unhide HW1]; exact c2
  have d3 : (w1.alloc (.cells #[.int .i64 (nw : Int), .int .i64 (nh : Int), .slice (some ⟨q, 0, none⟩) m m] 57)).cell? ⟨s + 1, 1, none⟩ = some (.int .i64 (nh : Int)) := by rw [unhide HW1]; exact c3
  clear hQ hge g1 hW1 HB0 HW b0 b1 b2
  go_wp2
  rw [unhide HW1]
  generalize hs1 : w1.heap.size = s1 at *
  clear hs1 HW1 d2 d3
  have HQS : Hid (s + 3 ≤ q) := by have := unhide HGE; have := unhide HS0; unfold Hid; omega
  have H0' : Hid (∀ i, 0 ≤ L.getD i 0 ∧ L.getD i 0 ≤ 4095) := fun i => by
    by_cases hi : i < L.length
    · have e : L.getD i 0 = L[i] := by simp [hi]
      rw [e]
      exact unhide H0 _ (List.getElem_mem hi)
    · have e : L.getD i 0 = 0 := by rw [List.getD_eq_getElem?_getD, List.getElem?_eq_none (by omega)]; rfl
      rw [e]
      omega
  go_loopw [12] (fun rv wr => ∃ (r k : Nat), r ≤ nh ∧ rv = .int .i64 r ∧ Hid (r * nw = k) ∧ Hid (Blk .u16 73 wr q (laidTo X k)) ∧ Hid (W1.grownBy wr (some q))) (fun rv _ => nh - (intOf rv).toNat)
  case atStart => exact ⟨0, 0, by omega, by go_num, by simp [Hid], HQ1, World.grownBy.refl _ _⟩
  case round =>
    obtain ⟨r, k, hr, rfl, HK, HQR, HGR⟩ := hrel
    by_cases hlt : r < nh
    · have hrI : (r : Int) < (nh : Int) := by omega
      have e1 := i64_in ((r : Int) + 1) (by omega)
      have hok := unhide HOK
      obtain ⟨a, HA⟩ : ∃ a, Hid (fromN ht nh r = a) := ⟨_, rfl⟩
      obtain ⟨b, HB⟩ : ∃ b, Hid (toN ht nh r = b) := ⟨_, rfl⟩
      have hab : a < b := by rw [← unhide HA, ← unhide HB]; exact from_to hnh.1 hh.1
      have hbm : b ≤ ht := by rw [← unhide HB]; exact to_le hlt
      obtain ⟨ct, HCT⟩ : ∃ k, Hid (b - a = k) := ⟨_, rfl⟩
      obtain ⟨lo, HLO⟩ : ∃ lo : Nat, Hid (a * wd = lo) := ⟨_, rfl⟩
      have hkx := row_end (w := nw) hlt
      have hlx := row_end (w := wd) (show a < ht by omega)
      rw [Nat.mul_comm nh nw, unhide HK, unhide HM] at hkx
      rw [Nat.mul_comm ht wd, unhide HLO, unhide HN] at hlx
      have x0 := hide (grown_atG (unhide HGR) (unhide p0) (by have := unhide HQS; simp; omega))
      have x1 := hide (grown_atG (unhide HGR) (unhide p1) (by have := unhide HQS; simp; omega))
      have HK' : Hid ((r + 1) * nw = k + nw) := by unfold Hid; rw [Nat.add_mul, Nat.one_mul, unhide HK]
      have HAT : Hid (∀ x, x < nw → X.getD (k + x) 0 = ((List.range nw).map (shrinkF L wd ht nw nh r)).getD x 0) := fun x hx => by
        rw [← unhide HX, shrinkL, ← unhide HK, gridL_at _ hlt hx]
        simp [hx]
      have cy : wr.cell? ⟨s, 1, none⟩ = some (.int .i64 (ht : Int)) := by rw [cell_of_row wr _ 1 _ _ (0, 0) (unhide x0)]; rfl
      have cz : wr.cell? ⟨s + 1, 1, none⟩ = some (.int .i64 (nh : Int)) := by rw [cell_of_row wr _ 1 _ _ (0, 0) (unhide x1)]; rfl
      go_wp2_with fail
      refine (spanOf r nh ht a b hlt hnh.2 hh HA HB wr).mono ?_
      rintro e w4 ⟨rfl, g4⟩
      obtain ⟨W5, hW5⟩ : ∃ W5, w4.alloc (.cells #[.int .i64 (a : Int), .int .i64 (b : Int)] 86) = W5 := ⟨_, rfl⟩
      have G5 : Hid (wr.grownBy W5 none) := by rw [← hW5]; exact grown_alloc g4 _
      have b7 : Hid (W5.heap[w4.heap.size]? = some (.cells #[.int .i64 (a : Int), .int .i64 (b : Int)] 86 (0, 0))) := by rw [← hW5]; exact heap_alloc_new w4 _
      have HW5 := hide hW5
      clear hW5 g4 cy cz x1
      go_wp2_with fail
      rw [unhide HW5]
      clear HW5
      generalize w4.heap.size = s7 at *
      refine (spanCount a b ct (by omega) (by omega) HCT W5).mono ?_
      rintro e w6 ⟨rfl, g6⟩
      have G6 := hide (grown_trans (unhide G5) g6)
      have b8 := hide (grown_atG g6 (unhide b7) (by simp))
      clear g6 b7 G5
      by_cases hone : ct = 1
      · have e3 : ((ct : Int) == 1) = true := by simp [hone]
        have e4 : decide ((ct : Int) = 1) = true := by simp [hone]
        have HONE := hide hone
        have HMO : Hid (meansL (rowL L wd a) nw 1 = (List.range nw).map (shrinkF L wd ht nw nh r)) := by
          unfold Hid
          rw [← unhide HA]
          exact means_one (by rw [unhide HL, unhide HN]) hw.1 hlt (by rw [unhide HA, unhide HB, unhide HCT]; exact hone)
        clear hone
        go_wp2
        have G7 : Hid (wr.grownBy w6.drew none) := grown_drew (unhide G6)
        have x0 : Hid (w6.drew.heap[s]? = _) := grown_atG (unhide G7) (unhide x0) (by simp)
        have x3 : Hid (w6.drew.heap[s1]? = _) := grown_atG (unhide G7) (grown_atG (unhide HGR) (unhide p3) (by have := unhide HQL; simp; omega)) (by simp)
        have x7 : Hid (w6.drew.heap[s7]? = some (.cells #[.int .i64 (a : Int), .int .i64 (b : Int)] 86 (0, 0))) := unhide b8
        have HQ7 : Hid (Blk .u16 73 w6.drew q (laidTo X k)) := (unhide HQR).grown (unhide G7)
        have HB7 : Hid (Blk .u16 73 w6.drew g L) := ((unhide HB1).beside (unhide HGR) (by have := unhide HGL; have := unhide HQS; simp; omega)).grown (unhide G7)
        refine wp_region_noPanic ?_
        refine wp_region_tailL 20 (fun W => W.heap[s]? = some (.cells #[.int .i64 (wd : Int), .int .i64 (ht : Int), .slice (some ⟨g, 0, none⟩) n n] 57 (0, 0)) ∧ W.heap[s1]? = some (.cells #[.int .i64 (nw : Int), .int .i64 (nh : Int), .slice (some ⟨q, 0, none⟩) m m] 57 (0, 0)) ∧ W.heap[s7]? = some (.cells #[.int .i64 (a : Int), .int .i64 (b : Int)] 86 (0, 0))) [true, true, true, false, true, true, true, true, false, false] (by kernel_rfl) (fun _ _ _ _ _ h => h) rfl (by decide) (by kernel_rfl) ⟨unhide x0, unhide x3, unhide x7⟩ ?_
        generalize w6.drew = w7 at *
        clear G6 b8
        refine heldF_take (v := ?_) (Or.inl ⟨by rfl, ?_⟩) ?_
        rotate_left 1
        · intro w' hSw
          go_simp
          try with_reducible rfl
        try simp only [Act.put, List.setIfInBounds_toArray, List.set_cons_zero, List.set_cons_succ]
        refine heldF_take (v := .agg #[.int .i64 (nw : Int), .int .i64 (nh : Int), .slice (some ⟨q, 0, none⟩) m m]) (Or.inl ⟨by rfl, ?_⟩) ?_
        · intro w' hSw
          exact exec_row 55 _ rfl s1 rfl _ _ hSw.2.1 _ Try.underlying55 rfl (by kernel_rfl)
        try simp only [Act.put, List.setIfInBounds_toArray, List.set_cons_zero, List.set_cons_succ]
        refine heldF_take (v := ?_) (Or.inl ⟨by rfl, ?_⟩) ?_
        rotate_left 1
        · intro w' hSw
          go_simp
          try with_reducible rfl
        try simp only [Act.put, List.setIfInBounds_toArray, List.set_cons_zero, List.set_cons_succ]
        refine heldF_skip ?_
        refine heldF_take (v := ?_) (Or.inl ⟨by rfl, ?_⟩) ?_
        rotate_left 1
        · intro w' hSw
          go_simp
          try with_reducible rfl
        try simp only [Act.put, List.setIfInBounds_toArray, List.set_cons_zero, List.set_cons_succ]
        refine heldF_take (v := .agg #[.int .i64 (wd : Int), .int .i64 (ht : Int), .slice (some ⟨g, 0, none⟩) n n]) (Or.inl ⟨by rfl, ?_⟩) ?_
        · intro w' hSw
          exact exec_row 55 _ rfl s rfl _ _ hSw.1 _ Try.underlying55 rfl (by kernel_rfl)
        try simp only [Act.put, List.setIfInBounds_toArray, List.set_cons_zero, List.set_cons_succ]
        refine heldF_take (v := ?_) (Or.inl ⟨by rfl, ?_⟩) ?_
        rotate_left 1
        · intro w' hSw
          go_simp
          try with_reducible rfl
        try simp only [Act.put, List.setIfInBounds_toArray, List.set_cons_zero, List.set_cons_succ]
        refine heldF_take (v := ?_) (Or.inl ⟨by rfl, ?_⟩) ?_
        rotate_left 1
        · intro w' hSw
          have ca : w'.cell? ⟨s7, 0, none⟩ = some (.int .i64 (a : Int)) := by rw [cell_of_row w' _ 0 _ _ (0, 0) hSw.2.2]; rfl
          go_simp
          try with_reducible rfl
        try simp only [Act.put, List.setIfInBounds_toArray, List.set_cons_zero, List.set_cons_succ]
        refine heldF_skip ?_
        refine heldF_skip ?_
        refine heldF_nil ?_
        refine tailL_skip ?_
        refine tailL_skip ?_
        refine tailL_skip ?_
        refine tailL_step (fun K hK => ?_)
        go_simp
        refine (toneRow nw nh q m r k hnw hnh.2 hlt HM HK w7).mono ?_
        rintro e w5 ⟨rfl, g5⟩
        refine hK.out _ _ (.inr ⟨grown_atG g5 (unhide x0) (by simp), grown_atG g5 (unhide x3) (by simp), grown_atG g5 (unhide x7) (by simp)⟩) ?_
        clear hK K
        try simp only [Act.put, List.setIfInBounds_toArray, List.set_cons_zero, List.set_cons_succ]
        refine tailL_skip ?_
        refine tailL_skip ?_
        refine tailL_skip ?_
        refine tailL_skip ?_
        refine tailL_step (fun K hK => ?_)
        go_simp
        refine (toneRow wd ht g n a lo hw hh.2 (by omega) HN HLO w5).mono ?_
        rintro e w8 ⟨rfl, g8⟩
        refine hK.out _ _ (.inr ⟨grown_atG (grown_trans g5 g8) (unhide x0) (by simp), grown_atG (grown_trans g5 g8) (unhide x3) (by simp), grown_atG (grown_trans g5 g8) (unhide x7) (by simp)⟩) ?_
        clear hK K
        try simp only [Act.put, List.setIfInBounds_toArray, List.set_cons_zero, List.set_cons_succ]
        refine tailL_step (fun K hK => ?_)
        go_simp
        have hS8 := ((unhide HB7).grown (grown_trans g5 g8)).rd lo wd (by have := unhide HL; omega)
        have hPL : rowL L wd a = (L.drop lo).take wd := by rw [rowL, unhide HLO]
        rw [← hPL] at hS8
        refine (fillT q k nw _ g lo wd _ 1 X (rowL L wd a) w8 hnw hw (by omega) (by omega) ((unhide HQ7).grown (grown_trans g5 g8)) (by rw [unhide HXL]; exact hkx) (fun x hx => by rw [unhide HAT x hx, unhide HMO]) hS8 (by have := unhide HGL; have := unhide HQS; have := unhide HS; omega) (fun i => ?_)).mono ?_
        · by_cases hi : i < wd
          · rw [rowL_at hi]; have := unhide H0' (a * wd + i); simpa using this
          · have e : (rowL L wd a).getD i 0 = 0 := by rw [List.getD_eq_getElem?_getD, List.getElem?_eq_none (by rw [hS8.1]; omega)]; rfl
            rw [e]; omega
        rintro e w9 ⟨⟨v, rfl⟩, hQ9, g9⟩
        refine hK.out _ _ (.inl rfl) ?_
        clear hK K
        refine tailL_nil (NoPanic.normal ?_)
        try simp only [Act.put]
        have HG9 : Hid (W1.grownBy w9 (some q)) := grown_trans (unhide HGR) (grown_trans (grown_any (grown_trans (unhide G7) (grown_trans g5 g8))) g9)
        have HQ9 := hide hQ9
        clear hQ9 g9 g8 g5 HQR HGR
        go_wp2
        go_roundw
        case rel => exact ⟨r + 1, k + nw, by omega, by go_num, HK', HQ9, HG9⟩
        case measure => simp [intOf]; omega
      · have e3 : ((ct : Int) == 1) = false := by simp; omega
        have e4 : decide ((ct : Int) = 1) = false := by simp; omega
        have HMO : Hid (meansL (colsL L wd a ct) nw ct = (List.range nw).map (shrinkF L wd ht nw nh r)) := by
          unfold Hid
          have := means_more (L := L) (w := wd) (h := ht) (nw := nw) (nh := nh) (y := r) hw.1
          rw [unhide HA, unhide HB, unhide HCT] at this
          exact this
        have HC0 : Hid (∀ i, 0 ≤ (colsL L wd a ct).getD i 0 ∧ (colsL L wd a ct).getD i 0 ≤ 4095 * ct) := fun i => by
          by_cases hi : i < wd
          · rw [colsL_at _ _ _ _ _ hi]
            exact colS_in (unhide H0') ct
          · have e : (colsL L wd a ct).getD i 0 = 0 := by rw [List.getD_eq_getElem?_getD, List.getElem?_eq_none (by rw [colsL_len]; omega)]; rfl
            rw [e]
            omega
        clear hone
        go_wp2
        have G7 : Hid (wr.grownBy w6.drew none) := grown_drew (unhide G6)
        have x0 : Hid (w6.drew.heap[s]? = _) := grown_atG (unhide G7) (unhide x0) (by simp)
        have x3 : Hid (w6.drew.heap[s1]? = _) := grown_atG (unhide G7) (grown_atG (unhide HGR) (unhide p3) (by have := unhide HQL; simp; omega)) (by simp)
        have x7 : Hid (w6.drew.heap[s7]? = some (.cells #[.int .i64 (a : Int), .int .i64 (b : Int)] 86 (0, 0))) := unhide b8
        have HQ7 : Hid (Blk .u16 73 w6.drew q (laidTo X k)) := (unhide HQR).grown (unhide G7)
        have HB7 : Hid (Blk .u16 73 w6.drew g L) := ((unhide HB1).beside (unhide HGR) (by have := unhide HGL; have := unhide HQS; simp; omega)).grown (unhide G7)
        refine wp_region_noPanic ?_
        refine wp_region_tailL 20 (fun W => W.heap[s]? = some (.cells #[.int .i64 (wd : Int), .int .i64 (ht : Int), .slice (some ⟨g, 0, none⟩) n n] 57 (0, 0)) ∧ W.heap[s1]? = some (.cells #[.int .i64 (nw : Int), .int .i64 (nh : Int), .slice (some ⟨q, 0, none⟩) m m] 57 (0, 0)) ∧ W.heap[s7]? = some (.cells #[.int .i64 (a : Int), .int .i64 (b : Int)] 86 (0, 0))) [true, true, true, false, true, true, false, true, false, false] (by kernel_rfl) (fun _ _ _ _ _ h => h) rfl (by decide) (by kernel_rfl) ⟨unhide x0, unhide x3, unhide x7⟩ ?_
        generalize w6.drew = w7 at *
        clear G6 b8
        refine heldF_take (v := ?_) (Or.inl ⟨by rfl, ?_⟩) ?_
        rotate_left 1
        · intro w' hSw
          go_simp
          try with_reducible rfl
        try simp only [Act.put, List.setIfInBounds_toArray, List.set_cons_zero, List.set_cons_succ]
        refine heldF_take (v := .agg #[.int .i64 (nw : Int), .int .i64 (nh : Int), .slice (some ⟨q, 0, none⟩) m m]) (Or.inl ⟨by rfl, ?_⟩) ?_
        · intro w' hSw
          exact exec_row 55 _ rfl s1 rfl _ _ hSw.2.1 _ Try.underlying55 rfl (by kernel_rfl)
        try simp only [Act.put, List.setIfInBounds_toArray, List.set_cons_zero, List.set_cons_succ]
        refine heldF_take (v := ?_) (Or.inl ⟨by rfl, ?_⟩) ?_
        rotate_left 1
        · intro w' hSw
          go_simp
          try with_reducible rfl
        try simp only [Act.put, List.setIfInBounds_toArray, List.set_cons_zero, List.set_cons_succ]
        refine heldF_skip ?_
        refine heldF_take (v := .agg #[.int .i64 (wd : Int), .int .i64 (ht : Int), .slice (some ⟨g, 0, none⟩) n n]) (Or.inl ⟨by rfl, ?_⟩) ?_
        · intro w' hSw
          exact exec_row 57 _ rfl s rfl _ _ hSw.1 _ Try.underlying57 rfl (by kernel_rfl)
        try simp only [Act.put, List.setIfInBounds_toArray, List.set_cons_zero, List.set_cons_succ]
        refine heldF_take (v := .agg #[.int .i64 (a : Int), .int .i64 (b : Int)]) (Or.inl ⟨by rfl, ?_⟩) ?_
        · intro w' hSw
          exact exec_row 86 _ rfl s7 rfl _ _ hSw.2.2 _ Try.underlying86 rfl (by kernel_rfl)
        try simp only [Act.put, List.setIfInBounds_toArray, List.set_cons_zero, List.set_cons_succ]
        refine heldF_skip ?_
        refine heldF_take (v := .agg #[.int .i64 (a : Int), .int .i64 (b : Int)]) (Or.inl ⟨by rfl, ?_⟩) ?_
        · intro w' hSw
          exact exec_row 86 _ rfl s7 rfl _ _ hSw.2.2 _ Try.underlying86 rfl (by kernel_rfl)
        try simp only [Act.put, List.setIfInBounds_toArray, List.set_cons_zero, List.set_cons_succ]
        refine heldF_skip ?_
        refine heldF_skip ?_
        refine heldF_nil ?_
        refine tailL_skip ?_
        refine tailL_skip ?_
        refine tailL_skip ?_
        refine tailL_step (fun K hK => ?_)
        go_simp
        refine (toneRow nw nh q m r k hnw hnh.2 hlt HM HK w7).mono ?_
        rintro e w5 ⟨rfl, g5⟩
        refine hK.out _ _ (.inr ⟨grown_atG g5 (unhide x0) (by simp), grown_atG g5 (unhide x3) (by simp), grown_atG g5 (unhide x7) (by simp)⟩) ?_
        clear hK K
        try simp only [Act.put, List.setIfInBounds_toArray, List.set_cons_zero, List.set_cons_succ]
        refine tailL_skip ?_
        refine tailL_skip ?_
        refine tailL_step (fun K hK => ?_)
        go_simp
        refine (columnSums wd ht g n a b ct L w5 hw hh.2 HN (by omega) HCT ((unhide HB7).grown g5) (unhide HL) (unhide H0')).mono ?_
        rintro e w8 ⟨gs, rfl, hC8, hge8, g8⟩
        have HC8 := hide hC8
        clear hC8
        refine hK.out _ _ (.inr ⟨grown_atG (grown_trans g5 g8) (unhide x0) (by simp), grown_atG (grown_trans g5 g8) (unhide x3) (by simp), grown_atG (grown_trans g5 g8) (unhide x7) (by simp)⟩) ?_
        clear hK K
        try simp only [Act.put, List.setIfInBounds_toArray, List.set_cons_zero, List.set_cons_succ]
        refine tailL_skip ?_
        refine tailL_step (fun K hK => ?_)
        go_simp
        refine (spanCount a b ct (by omega) (by omega) HCT w8).mono ?_
        rintro e wc ⟨rfl, gc⟩
        refine hK.out _ _ (.inr ⟨grown_atG (grown_trans g5 (grown_trans g8 gc)) (unhide x0) (by simp), grown_atG (grown_trans g5 (grown_trans g8 gc)) (unhide x3) (by simp), grown_atG (grown_trans g5 (grown_trans g8 gc)) (unhide x7) (by simp)⟩) ?_
        clear hK K
        try simp only [Act.put, List.setIfInBounds_toArray, List.set_cons_zero, List.set_cons_succ]
        refine tailL_step (fun K hK => ?_)
        go_simp
        have hS8 := ((unhide HC8).grown gc).rd0
        rw [colsL_len] at hS8
        refine (fillI q k nw _ gs 0 wd wd ct X (colsL L wd a ct) wc hnw hw (by have := unhide HCT; omega) (by omega) ((unhide HQ7).grown (grown_trans g5 (grown_trans g8 gc))) (by rw [unhide HXL]; exact hkx) (fun x hx => by rw [unhide HAT x hx, unhide HMO]) hS8 (by have := (unhide HQ7).lt; have := g5.size; omega) (unhide HC0)).mono ?_
        rintro e w9 ⟨⟨v, rfl⟩, hQ9, g9⟩
        refine hK.out _ _ (.inl rfl) ?_
        clear hK K
        refine tailL_nil (NoPanic.normal ?_)
        try simp only [Act.put]
        have HG9 : Hid (W1.grownBy w9 (some q)) := grown_trans (unhide HGR) (grown_trans (grown_any (grown_trans (unhide G7) (grown_trans g5 (grown_trans g8 gc)))) g9)
        have HQ9 := hide hQ9
        clear hQ9 g9 g8 g5 gc HQR HGR
        go_wp2
        go_roundw
        case rel => exact ⟨r + 1, k + nw, by omega, by go_num, HK', HQ9, HG9⟩
        case measure => simp [intOf]; omega
    · obtain rfl : nh = r := by omega
      have HALL : Hid (laidTo X k = X) := by unfold Hid; rw [← unhide HK, Nat.mul_comm nh nw, unhide HM, ← unhide HXL]; exact laidTo_all X
      have HO2 := hide (grown_atG (unhide HGR) (unhide p2) (by have := unhide HQS; simp; omega))
      have HO3 := hide (grown_atG (unhide HGR) (unhide p3) (by have := unhide HQL; simp; omega))
      rw [unhide HALL] at HQR
      go_wp2_with (first | (refine load_row rfl 57 _ rfl s1 rfl #[.int .i64 (nw : Int), .int .i64 (nh : Int), .slice (some ⟨q, 0, none⟩) m m] 57 (unhide HO3) _ Try.underlying57 rfl (by kernel_rfl) ?_) | (refine store_row rfl 57 _ _ rfl (s + 1 + 1) rfl #[.int .i64 (nw : Int), .int .i64 (nh : Int), .slice (some ⟨q, 0, none⟩) m m] rfl _ 57 (unhide HO2) rfl (by kernel_rfl) (by simp [Value.oneCell']) ?_; intro w9 hB9 g9))
      refine bodyPost_ret (v := .agg #[.int .i64 (nw : Int), .int .i64 (nh : Int), .slice (some ⟨q, 0, none⟩) m m]) ?_ rfl ⟨q, rfl, (unhide HQR).beside g9 (by have := unhide HQS; simp; omega), ?_⟩
      · rw [results_c1 rfl]
        exact run_loadVar_row w9 _ 57 57 _ (0, 0) _ hB9 Try.underlying57 rfl (by kernel_rfl)
      · exact grown_new (grown_new (grown_trans (unhide HG0) (unhide G1)) (unhide HGR) (fun k e => by simp at e; have := unhide HS; have := unhide HQS; omega)) g9 (fun k e => by simp at e; have := unhide HS; omega)

end Go.Proofs.Ytkefpjbdkhifhaa
