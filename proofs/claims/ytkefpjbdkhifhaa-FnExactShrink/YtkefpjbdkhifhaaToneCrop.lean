/-
  Planes that are cut, in the program (written by gen_tone3.py).
-/
import Derived.Test.YtkefpjbdkhifhaaToneMake
import Derived.Test.YtkefpjbdkhifhaaToneCopy
namespace Go.Proofs.Ytkefpjbdkhifhaa
open Go.RowKit

set_option maxRecDepth 20000 in
set_option maxHeartbeats 3200000 in
theorem cropped : TurnC 67 (fun wd ht nw nh => nw ≤ wd ∧ nh ≤ ht) (fun L wd _ nw nh => cropL L wd nw nh) := by
  intro wd ht g n nw nh m L W hw hh HN hn hnw hnh HM hm hok hB hL h0
  have HL := hide hL
  have H0 := hide h0
  have HOK := hide hok
  have HGL : Hid (g < W.heap.size) := hB.lt
  obtain ⟨W0, hW0⟩ : ∃ W0, ((W.alloc (.cells #[.int .i64 (wd : Int), .int .i64 (ht : Int), .slice (some ⟨g, 0, none⟩) n n] 57)).alloc (.cells #[.int .i64 (nw : Int), .int .i64 (nh : Int)] 48)).alloc (.cells #[.int .i64 0, .int .i64 0, .slice none 0 0] 57) = W0 := ⟨_, rfl⟩
  have HG0 : Hid (W.grownBy W0 none) := by rw [← hW0]; exact grown_alloc (grown_alloc (World.grownBy_alloc _ _ _) _) _
  have b0 : Hid (W0.heap[W.heap.size]? = some (.cells #[.int .i64 (wd : Int), .int .i64 (ht : Int), .slice (some ⟨g, 0, none⟩) n n] 57 (0, 0))) := by rw [← hW0, Below.heap_alloc _ _ _ (by simp <;> omega), Below.heap_alloc _ _ _ (by simp)]; exact heap_alloc_new W _
  have b1 : Hid (W0.heap[W.heap.size + 1]? = some (.cells #[.int .i64 (nw : Int), .int .i64 (nh : Int)] 48 (0, 0))) := by
    rw [← hW0, Below.heap_alloc _ _ _ (by simp)]
    have := heap_alloc_new (W.alloc (.cells #[.int .i64 (wd : Int), .int .i64 (ht : Int), .slice (some ⟨g, 0, none⟩) n n] 57)) (.cells #[.int .i64 (nw : Int), .int .i64 (nh : Int)] 48)
    unfold Hid
    simpa using this
  have b2 : Hid (W0.heap[W.heap.size + 1 + 1]? = some (.cells #[.int .i64 0, .int .i64 0, .slice none 0 0] 57 (0, 0))) := by
    rw [← hW0]
    have := heap_alloc_new ((W.alloc (.cells #[.int .i64 (wd : Int), .int .i64 (ht : Int), .slice (some ⟨g, 0, none⟩) n n] 57)).alloc (.cells #[.int .i64 (nw : Int), .int .i64 (nh : Int)] 48)) (.cells #[.int .i64 0, .int .i64 0, .slice none 0 0] 57)
    unfold Hid
    simpa using this
  have HS0 : Hid (W0.heap.size = W.heap.size + 3) := by rw [← hW0]; simp [Hid]
  have HB0 := hide (hB.grown (unhide HG0))
  have HW := hide hW0
  obtain ⟨X, HX⟩ : ∃ X, Hid (cropL L wd nw nh = X) := ⟨_, rfl⟩
  have HXL : Hid (X.length = m) := by unfold Hid; rw [← unhide HX, ← unhide HM]; exact gridL_len _ _ _
  dsimp only
  rw [unhide HX]
  clear hW0 hB hL h0 hok
  go_enter Try.func67, Try.ntmps67
  go_wp2_with fail
  rw [unhide HW]
  refine (newTones nw nh m hnw.2 hnh.2 HM W0).mono ?_
  rintro e w1 ⟨q, rfl, hQ, hge, g1⟩
  have HQL : Hid (q < w1.heap.size) := hQ.lt
  have HGE := hide hge
  obtain ⟨W1, hW1⟩ : ∃ W1, w1.alloc (.cells #[.int .i64 (nw : Int), .int .i64 (nh : Int), .slice (some ⟨q, 0, none⟩) m m] 57) = W1 := ⟨_, rfl⟩
  have G1 : Hid (W0.grownBy W1 none) := by rw [← hW1]; exact grown_alloc g1 _
  have HQ1 : Hid (Blk .u16 73 W1 q (laidTo X 0)) := by rw [← hW1, laidTo_zero, unhide HXL]; exact hQ.grown (World.grownBy_alloc _ _ _)
  have HB1 := hide ((unhide HB0).grown (unhide G1))
  have p0 := hide (grown_atG (unhide G1) (unhide b0) (by simp))
  have p1 := hide (grown_atG (unhide G1) (unhide b1) (by simp))
  have p2 := hide (grown_atG (unhide G1) (unhide b2) (by simp))
  have p3 : Hid (W1.heap[w1.heap.size]? = some (.cells #[.int .i64 (nw : Int), .int .i64 (nh : Int), .slice (some ⟨q, 0, none⟩) m m] 57 (0, 0))) := by rw [← hW1]; exact heap_alloc_new w1 _
  have HS1 : Hid (W.heap.size + 3 ≤ w1.heap.size) := by have := g1.size; have := unhide HS0; unfold Hid; omega
  have HW1 := hide hW1
  generalize hs : W.heap.size = s at *
  have HS := hide hs
  clear hs
  have c0 : W1.cell? ⟨s, 0, none⟩ = some (.int .i64 (wd : Int)) := by rw [cell_of_row W1 _ 0 _ _ (0, 0) (unhide p0)]; rfl
  have c1 : W1.cell? ⟨s, 1, none⟩ = some (.int .i64 (ht : Int)) := by rw [cell_of_row W1 _ 1 _ _ (0, 0) (unhide p0)]; rfl
  have c2 : W1.cell? ⟨s + 1, 0, none⟩ = some (.int .i64 (nw : Int)) := by rw [cell_of_row W1 _ 0 _ _ (0, 0) (unhide p1)]; rfl
  have c3 : W1.cell? ⟨s + 1, 1, none⟩ = some (.int .i64 (nh : Int)) := by rw [cell_of_row W1 _ 1 _ _ (0, 0) (unhide p1)]; rfl
  have d2 : (w1.alloc (.cells #[.int .i64 (nw : Int), .int .i64 (nh : Int), .slice (some ⟨q, 0, none⟩) m m] 57)).cell? ⟨s + 1, 0, none⟩ = some (.int .i64 (nw : Int)) := by rw [unhide HW1]; exact c2
  have d3 : (w1.alloc (.cells #[.int .i64 (nw : Int), .int .i64 (nh : Int), .slice (some ⟨q, 0, none⟩) m m] 57)).cell? ⟨s + 1, 1, none⟩ = some (.int .i64 (nh : Int)) := by rw [unhide HW1]; exact c3
  clear hQ hge g1 hW1 HB0 HW b0 b1 b2
  go_wp2
  rw [unhide HW1]
  generalize hs1 : w1.heap.size = s1 at *
  clear hs1 HW1 d2 d3
  have HQS : Hid (s + 3 ≤ q) := by have := unhide HGE; have := unhide HS0; unfold Hid; omega
  go_loopw [11] (fun rv wr => ∃ (r k : Nat), r ≤ nh ∧ rv = .int .i64 r ∧ Hid (r * nw = k) ∧ Hid (Blk .u16 73 wr q (laidTo X k)) ∧ Hid (W1.grownBy wr (some q))) (fun rv _ => nh - (intOf rv).toNat)
  case atStart => exact ⟨0, 0, by omega, by go_num, by simp [Hid], HQ1, World.grownBy.refl _ _⟩
  case round =>
    obtain ⟨r, k, hr, rfl, HK, HQR, HGR⟩ := hrel
    by_cases hlt : r < nh
    · have hrI : (r : Int) < (nh : Int) := by omega
      have e1 := i64_in ((r : Int) + 1) (by omega)
      have hok := unhide HOK
      obtain ⟨lo, HLO⟩ : ∃ lo : Nat, Hid (r * wd = lo) := ⟨_, rfl⟩
      have hkx := row_end (w := nw) hlt
      have hlx := row_end (w := wd) (show r < ht by omega)
      rw [Nat.mul_comm nh nw, unhide HK, unhide HM] at hkx
      rw [Nat.mul_comm ht wd, unhide HLO, unhide HN] at hlx
      have HBR := hide ((unhide HB1).beside (unhide HGR) (by have := unhide HGL; have := unhide HQS; simp; omega))
      have x0 := hide (grown_atG (unhide HGR) (unhide p0) (by have := unhide HQS; simp; omega))
      have x3 := hide (grown_atG (unhide HGR) (unhide p3) (by have := unhide HQL; simp; omega))
      have HSP : Hid (spliceL (laidTo X k) ((L.drop lo).take nw) k = laidTo X (k + nw)) := by
        have hsl : ((L.drop lo).take nw).length = nw := by have := unhide HL; simp; omega
        have h1 := laidTo_splice X ((L.drop lo).take nw) k (by rw [hsl, unhide HXL]; exact hkx) (by
          rw [hsl, ← unhide HX, cropL, ← unhide HK, grid_row _ hlt]
          refine List.ext_getElem (by rw [hsl]; simp) (fun i h1 h2 => ?_)
          have hi : i < nw := by simpa using h2
          have : lo + i < L.length := by have := unhide HL; omega
          simp [unhide HLO, this])
        rw [hsl] at h1
        exact h1
      go_wp2
      refine wp_region_noPanic ?_
      refine wp_region_tailL 20 (fun W => W.heap[s]? = some (.cells #[.int .i64 (wd : Int), .int .i64 (ht : Int), .slice (some ⟨g, 0, none⟩) n n] 57 (0, 0)) ∧ W.heap[s1]? = some (.cells #[.int .i64 (nw : Int), .int .i64 (nh : Int), .slice (some ⟨q, 0, none⟩) m m] 57 (0, 0))) [true, true, true, false, true, true, true, false, false] (by kernel_rfl) (fun _ _ _ _ _ h => h) rfl (by decide) (by kernel_rfl) ⟨unhide x0, unhide x3⟩ ?_
      have x0 : Hid (wr.drew.heap[s]? = _) := unhide x0
      have x3 : Hid (wr.drew.heap[s1]? = _) := unhide x3
      have HQR : Hid (Blk .u16 73 wr.drew q (laidTo X k)) := unhide HQR
      have HBR : Hid (Blk .u16 73 wr.drew g L) := unhide HBR
      have HD : Hid (wr.grownBy wr.drew none) := grown_drew (World.grownBy.refl _ _)
      generalize wr.drew = w4 at *
      refine heldF_take (v := ?_) (Or.inl ⟨by rfl, ?_⟩) ?_
      rotate_left 1
      · intro w' hSw
        go_simp
        try with_reducible rfl
      try simp only [Act.put, List.setIfInBounds_toArray, List.set_cons_zero, List.set_cons_succ]
      refine heldF_take (v := .agg #[.int .i64 (nw : Int), .int .i64 (nh : Int), .slice (some ⟨q, 0, none⟩) m m]) (Or.inl ⟨by rfl, ?_⟩) ?_
      · intro w' hSw
        exact exec_row 55 _ rfl s1 rfl _ _ hSw.2 _ Try.underlying55 rfl (by kernel_rfl)
      try simp only [Act.put, List.setIfInBounds_toArray, List.set_cons_zero, List.set_cons_succ]
      refine heldF_take (v := ?_) (Or.inl ⟨by rfl, ?_⟩) ?_
      rotate_left 1
      · intro w' hSw
        go_simp
        try with_reducible rfl
      try simp only [Act.put, List.setIfInBounds_toArray, List.set_cons_zero, List.set_cons_succ]
      refine heldF_skip ?_
      refine heldF_take (v := ?_) (Or.inl ⟨by rfl, ?_⟩) ?_
      rotate_left 1
      · intro w' hSw
        go_simp
        try with_reducible rfl
      try simp only [Act.put, List.setIfInBounds_toArray, List.set_cons_zero, List.set_cons_succ]
      refine heldF_take (v := .agg #[.int .i64 (wd : Int), .int .i64 (ht : Int), .slice (some ⟨g, 0, none⟩) n n]) (Or.inl ⟨by rfl, ?_⟩) ?_
      · intro w' hSw
        exact exec_row 55 _ rfl s rfl _ _ hSw.1 _ Try.underlying55 rfl (by kernel_rfl)
      try simp only [Act.put, List.setIfInBounds_toArray, List.set_cons_zero, List.set_cons_succ]
      refine heldF_take (v := ?_) (Or.inl ⟨by rfl, ?_⟩) ?_
      rotate_left 1
      · intro w' hSw
        go_simp
        try with_reducible rfl
      try simp only [Act.put, List.setIfInBounds_toArray, List.set_cons_zero, List.set_cons_succ]
      refine heldF_skip ?_
      refine heldF_skip ?_
      refine heldF_nil ?_
      refine tailL_skip ?_
      refine tailL_skip ?_
      refine tailL_skip ?_
      refine tailL_step (fun K hK => ?_)
      go_simp
      refine (toneRow nw nh q m r k hnw hnh.2 hlt HM HK w4).mono ?_
      rintro e w5 ⟨rfl, g5⟩
      refine hK.out _ _ (.inr ⟨grown_atG g5 (unhide x0) (by simp), grown_atG g5 (unhide x3) (by simp)⟩) ?_
      clear hK K
      try simp only [Act.put, List.setIfInBounds_toArray, List.set_cons_zero, List.set_cons_succ]
      refine tailL_skip ?_
      refine tailL_skip ?_
      refine tailL_skip ?_
      refine tailL_step (fun K hK => ?_)
      go_simp
      refine (toneRow wd ht g n r lo hw hh.2 (by omega) HN HLO w5).mono ?_
      rintro e w6 ⟨rfl, g6⟩
      refine hK.out _ _ (.inr ⟨grown_atG (grown_trans g5 g6) (unhide x0) (by simp), grown_atG (grown_trans g5 g6) (unhide x3) (by simp)⟩) ?_
      clear hK K
      try simp only [Act.put, List.setIfInBounds_toArray, List.set_cons_zero, List.set_cons_succ]
      refine tailL_step (fun K hK => ?_)
      refine step_copyB rfl _ _ _ _ rfl 73 Try.underlying53 (by kernel_rfl) q k nw _ g lo wd _ rfl rfl .u16 73 (laidTo X k) ((unhide HQR).grown (grown_trans g5 g6)) ((L.drop lo).take nw) nw (by simp [Nat.min_def]; omega) (((unhide HBR).grown (grown_trans g5 g6)).rd lo nw (by have := unhide HL; omega)) (by rw [laidTo_len X k (by have := unhide HXL; omega), unhide HXL]; exact hkx) _ (unhide HSP) ?_
      intro w7 hQ7 g7
      refine hK.out _ _ (.inl rfl) ?_
      clear hK K
      refine tailL_nil (NoPanic.normal ?_)
      try simp only [Act.put]
      have HK' : Hid ((r + 1) * nw = k + nw) := by unfold Hid; rw [Nat.add_mul, Nat.one_mul, unhide HK]
      have HGR' : Hid (W1.grownBy w7 (some q)) := grown_trans (unhide HGR) (grown_trans (grown_any (grown_trans (unhide HD) (grown_trans g5 g6))) g7)
      have HQ7 := hide hQ7
      clear hQ7 g5 g6 g7 HQR HGR HBR HSP
      go_wp2
      go_roundw
      case rel => exact ⟨r + 1, k + nw, by omega, by go_num, HK', HQ7, HGR'⟩
      case measure => simp [intOf]; omega
    · obtain rfl : nh = r := by omega
      have HALL : Hid (laidTo X k = X) := by unfold Hid; rw [← unhide HK, Nat.mul_comm nh nw, unhide HM, ← unhide HXL]; exact laidTo_all X
      have HO2 := hide (grown_atG (unhide HGR) (unhide p2) (by have := unhide HQS; simp; omega))
      have HO3 := hide (grown_atG (unhide HGR) (unhide p3) (by have := unhide HQL; simp; omega))
      rw [unhide HALL] at HQR
      go_wp2_with (first | (refine load_row rfl 57 _ rfl s1 rfl #[.int .i64 (nw : Int), .int .i64 (nh : Int), .slice (some ⟨q, 0, none⟩) m m] 57 (unhide HO3) _ Try.underlying57 rfl (by kernel_rfl) ?_) | (refine store_row rfl 57 _ _ rfl (s + 1 + 1) rfl #[.int .i64 (nw : Int), .int .i64 (nh : Int), .slice (some ⟨q, 0, none⟩) m m] rfl _ 57 (unhide HO2) rfl (by kernel_rfl) (by simp [Value.oneCell']) ?_; intro w9 hB9 g9))
      refine bodyPost_ret (v := .agg #[.int .i64 (nw : Int), .int .i64 (nh : Int), .slice (some ⟨q, 0, none⟩) m m]) ?_ rfl ⟨q, rfl, (unhide HQR).beside g9 (by have := unhide HQS; simp; omega), ?_⟩
      · rw [results_c1 rfl]
        exact run_loadVar_row w9 _ 57 57 _ (0, 0) _ hB9 Try.underlying57 rfl (by kernel_rfl)
      · exact grown_new (grown_new (grown_trans (unhide HG0) (unhide G1)) (unhide HGR) (fun k e => by simp at e; have := unhide HS; have := unhide HQS; omega)) g9 (fun k e => by simp at e; have := unhide HS; omega)

end Go.Proofs.Ytkefpjbdkhifhaa
