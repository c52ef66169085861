/-
  Planes with more at their edges, in the program (written by gen_tone3.py).
-/
import Derived.Test.YtkefpjbdkhifhaaToneMake
import Derived.Test.YtkefpjbdkhifhaaToneCopy
namespace Go.Proofs.Ytkefpjbdkhifhaa
open Go.RowKit

set_option maxRecDepth 20000 in
set_option maxHeartbeats 3200000 in
theorem padded : TurnC 65 (fun wd ht nw nh => wd ≤ nw ∧ ht ≤ nh) (fun L wd ht nw nh => padL L wd ht nw nh) := by
  intro wd ht g n nw nh m L W hw hh HN hn hnw hnh HM hm hok hB hL h0
  have HL := hide hL
  have H0 := hide h0
  have HOK := hide hok
  have HGL : Hid (g < W.heap.size) := hB.lt
  obtain ⟨W0, hW0⟩ : ∃ W0, ((W.alloc (.cells #[.int .i64 (wd : Int), .int .i64 (ht : Int), .slice (some ⟨g, 0, none⟩) n n] 57)).alloc (.cells #[.int .i64 (nw : Int), .int .i64 (nh : Int)] 48)).alloc (.cells #[.int .i64 0, .int .i64 0, .slice none 0 0] 57) = W0 := ⟨_, rfl⟩
  have HG0 : Hid (W.grownBy W0 none) := by rw [← hW0]; exact grown_alloc (grown_alloc (World.grownBy_alloc _ _ _) _) _
  have b0 : Hid (W0.heap[W.heap.size]? = some (.cells #[.int .i64 (wd : Int), .int .i64 (ht : Int), .slice (some ⟨g, 0, none⟩) n n] 57 (0, 0))) := by rw [← hW0, Below.heap_alloc _ _ _ (by simp <;> omega), Below.heap_alloc _ _ _ (by simp)]; exact heap_alloc_new W _
  have b1 : Hid (W0.heap[W.heap.size + 1]? = some (.cells #[.int .i64 (nw : Int), .int .i64 (nh : Int)] 48 (0, 0))) := by
    rw [← hW0, Below.heap_alloc _ _ _ (by simp)]
    have := heap_alloc_new (W.alloc (.cells #[.int .i64 (wd : Int), .int .i64 (ht : Int), .slice (some ⟨g, 0, none⟩) n n] 57)) (.cells #[.int .i64 (nw : Int), .int .i64 (nh : Int)] 48)
    unfold Hid
    simpa using this
  have b2 : Hid (W0.heap[W.heap.size + 1 + 1]? = some (.cells #[.int .i64 0, .int .i64 0, .slice none 0 0] 57 (0, 0))) := by
    rw [← hW0]
    have := heap_alloc_new ((W.alloc (.cells #[.int .i64 (wd : Int), .int .i64 (ht : Int), .slice (some ⟨g, 0, none⟩) n n] 57)).alloc (.cells #[.int .i64 (nw : Int), .int .i64 (nh : Int)] 48)) (.cells #[.int .i64 0, .int .i64 0, .slice none 0 0] 57)
    unfold Hid
    simpa using this
  have HS0 : Hid (W0.heap.size = W.heap.size + 3) := by rw [← hW0]; simp [Hid]
  have HB0 := hide (hB.grown (unhide HG0))
  have HW := hide hW0
  obtain ⟨X, HX⟩ : ∃ X, Hid (padL L wd ht nw nh = X) := ⟨_, rfl⟩
  have HXL : Hid (X.length = m) := by unfold Hid; rw [← unhide HX, ← unhide HM]; exact gridL_len _ _ _
  dsimp only
  rw [unhide HX]
  clear hW0 hB hL h0 hok
  go_enter Try.func65, Try.ntmps65
  go_wp2_with fail
  rw [unhide HW]
  refine (newTones nw nh m hnw.2 hnh.2 HM W0).mono ?_
  rintro e w1 ⟨q, rfl, hQ, hge, g1⟩
  have HQL : Hid (q < w1.heap.size) := hQ.lt
  have HGE := hide hge
  obtain ⟨W1, hW1⟩ : ∃ W1, w1.alloc (.cells #[.int .i64 (nw : Int), .int .i64 (nh : Int), .slice (some ⟨q, 0, none⟩) m m] 57) = W1 := ⟨_, rfl⟩
  have G1 : Hid (W0.grownBy W1 none) := by rw [← hW1]; exact grown_alloc g1 _
  have HQ1 : Hid (Blk .u16 73 W1 q (laidTo X 0)) := by rw [← hW1, laidTo_zero, unhide HXL]; exact hQ.grown (World.grownBy_alloc _ _ _)
  have HB1 := hide ((unhide HB0).grown (unhide G1))
  have p0 := hide (grown_atG (unhide G1) (unhide b0) (by simp))
  have p1 := hide (grown_atG (unhide G1) (unhide b1) (by simp))
  have p2 := hide (grown_atG (unhide G1) (unhide b2) (by simp))
  have p3 : Hid (W1.heap[w1.heap.size]? = some (.cells #[.int .i64 (nw : Int), .int .i64 (nh : Int), .slice (some ⟨q, 0, none⟩) m m] 57 (0, 0))) := by rw [← hW1]; exact heap_alloc_new w1 _
  have HS1 : Hid (W.heap.size + 3 ≤ w1.heap.size) := by have := g1.size; have := unhide HS0; unfold Hid; omega
  have HW1 := hide hW1
  generalize hs : W.heap.size = s at *
  have HS := hide hs
  clear hs
  have c0 : W1.cell? ⟨s, 0, none⟩ = some (.int .i64 (wd : Int)) := by rw [cell_of_row W1 _ 0 _ _ (0, 0) (unhide p0)]; rfl
  have c1 : W1.cell? ⟨s, 1, none⟩ = some (.int .i64 (ht : Int)) := by rw [cell_of_row W1 _ 1 _ _ (0, 0) (unhide p0)]; rfl
  have c2 : W1.cell? ⟨s + 1, 0, none⟩ = some (.int .i64 (nw : Int)) := by rw [cell_of_row W1 _ 0 _ _ (0, 0) (unhide p1)]; rfl
  have c3 : W1.cell? ⟨s + 1, 1, none⟩ = some (.int .i64 (nh : Int)) := by rw [cell_of_row W1 _ 1 _ _ (0, 0) (unhide p1)]; rfl
  have d2 : (w1.alloc (.cells #[.int .i64 (nw : Int), .int .i64 (nh : Int), .slice (some ⟨q, 0, none⟩) m m] 57)).cell? ⟨s + 1, 0, none⟩ = some (.int .i64 (nw : Int)) := by rw [unhide HW1]; exact c2
  have d3 : (w1.alloc (.cells #[.int .i64 (nw : Int), .int .i64 (nh : Int), .slice (some ⟨q, 0, none⟩) m m] 57)).cell? ⟨s + 1, 1, none⟩ = some (.int .i64 (nh : Int)) := by rw [unhide HW1]; exact c3
  clear hQ hge g1 hW1 HB0 HW b0 b1 b2
  go_wp2
  rw [unhide HW1]
  generalize hs1 : w1.heap.size = s1 at *
  clear hs1 HW1 d2 d3
  have HQS : Hid (s + 3 ≤ q) := by have := unhide HGE; have := unhide HS0; unfold Hid; omega
  go_loopw [14] (fun rv wr => ∃ (r k : Nat), r ≤ nh ∧ rv = .int .i64 r ∧ Hid (r * nw = k) ∧ Hid (Blk .u16 73 wr q (laidTo X k)) ∧ Hid (W1.grownBy wr (some q))) (fun rv _ => nh - (intOf rv).toNat)
  case atStart => exact ⟨0, 0, by omega, by go_num, by simp [Hid], HQ1, World.grownBy.refl _ _⟩
  case round =>
    obtain ⟨r, k, hr, rfl, HK, HQR, HGR⟩ := hrel
    by_cases hlt : r < nh
    · have hrI : (r : Int) < (nh : Int) := by omega
      have e1 := i64_in ((r : Int) + 1) (by omega)
      have hok := unhide HOK
      obtain ⟨ry, HRY⟩ : ∃ y : Nat, Hid (min r (ht - 1) = y) := ⟨_, rfl⟩
      have hry : ry < ht := by have := unhide HRY; omega
      have e2 := i64_in ((ht : Int) - 1) (by omega)
      have e3 : (if (ht : Int) - 1 < (r : Int) then (ht : Int) - 1 else (r : Int)) = (ry : Int) := by have := unhide HRY; split <;> omega
      obtain ⟨lo, HLO⟩ : ∃ lo : Nat, Hid (ry * wd = lo) := ⟨_, rfl⟩
      have hkx := row_end (w := nw) hlt
      have hlx := row_end (w := wd) hry
      rw [Nat.mul_comm nh nw, unhide HK, unhide HM] at hkx
      rw [Nat.mul_comm ht wd, unhide HLO, unhide HN] at hlx
      have HBR := hide ((unhide HB1).beside (unhide HGR) (by have := unhide HGL; have := unhide HQS; simp; omega))
      have x0 := hide (grown_atG (unhide HGR) (unhide p0) (by have := unhide HQS; simp; omega))
      have x1 := hide (grown_atG (unhide HGR) (unhide p1) (by have := unhide HQS; simp; omega))
      have x3 := hide (grown_atG (unhide HGR) (unhide p3) (by have := unhide HQL; simp; omega))
      have HAT : Hid (∀ x, x < nw → X.getD (k + x) 0 = L.getD (lo + min x (wd - 1)) 0) := fun x hx => by
        rw [← unhide HX, padL, ← unhide HK, gridL_at _ hlt hx, unhide HRY, unhide HLO]
      have HSP : Hid (spliceL (laidTo X k) ((L.drop lo).take wd) k = laidTo X (k + wd)) := by
        have hsl : ((L.drop lo).take wd).length = wd := by have := unhide HL; simp; omega
        have h1 := laidTo_splice X ((L.drop lo).take wd) k (by rw [hsl, unhide HXL]; omega) (by
          rw [hsl]
          refine List.ext_getElem (by rw [hsl]; simp; have := unhide HXL; omega) (fun i h1 h2 => ?_)
          have hi : i < wd := by rw [hsl] at h1; exact h1
          have h3 : lo + i < L.length := by have := unhide HL; omega
          have h4 : k + i < X.length := by have := unhide HXL; omega
          have h5 := unhide HAT i (by omega)
          rw [show min i (wd - 1) = i by omega] at h5
          simp [h3, h4] at h5 ⊢
          exact h5.symm)
        rw [hsl] at h1
        exact h1
      go_wp2
      refine wp_region_noPanic ?_
      refine wp_region_tail (fun W => W.heap[s]? = some (.cells #[.int .i64 (wd : Int), .int .i64 (ht : Int), .slice (some ⟨g, 0, none⟩) n n] 57 (0, 0)) ∧ W.heap[s1]? = some (.cells #[.int .i64 (nw : Int), .int .i64 (nh : Int), .slice (some ⟨q, 0, none⟩) m m] 57 (0, 0))) [true, true, true, false, true, true, true, true, true, true, true, true, true, false, false, false] (by kernel_rfl) (fun _ _ _ _ _ h => h) rfl (by kernel_rfl) ⟨unhide x0, unhide x3⟩ ?_
      have x0 : Hid (wr.drew.heap[s]? = _) := unhide x0
      have y1 := x1
      have x1 : Hid (wr.drew.heap[s + 1]? = _) := unhide x1
      have x3 : Hid (wr.drew.heap[s1]? = _) := unhide x3
      have HQR : Hid (Blk .u16 73 wr.drew q (laidTo X k)) := unhide HQR
      have HBR : Hid (Blk .u16 73 wr.drew g L) := unhide HBR
      have HD : Hid (wr.grownBy wr.drew none) := grown_drew (World.grownBy.refl _ _)
      generalize wr.drew = w4 at *
      refine heldF_take (v := ?_) (Or.inl ⟨by rfl, ?_⟩) ?_
      rotate_left 1
      · intro w' hSw
        go_simp
        try with_reducible rfl
      try simp only [Act.put, List.setIfInBounds_toArray, List.set_cons_zero, List.set_cons_succ]
      refine heldF_take (v := .agg #[.int .i64 (nw : Int), .int .i64 (nh : Int), .slice (some ⟨q, 0, none⟩) m m]) (Or.inl ⟨by rfl, ?_⟩) ?_
      · intro w' hSw
        exact exec_row 55 _ rfl s1 rfl _ _ hSw.2 _ Try.underlying55 rfl (by kernel_rfl)
      try simp only [Act.put, List.setIfInBounds_toArray, List.set_cons_zero, List.set_cons_succ]
      refine heldF_take (v := ?_) (Or.inl ⟨by rfl, ?_⟩) ?_
      rotate_left 1
      · intro w' hSw
        go_simp
        try with_reducible rfl
      try simp only [Act.put, List.setIfInBounds_toArray, List.set_cons_zero, List.set_cons_succ]
      refine heldF_skip ?_
      refine heldF_take (v := ?_) (Or.inl ⟨by rfl, ?_⟩) ?_
      rotate_left 1
      · intro w' hSw
        go_simp
        try with_reducible rfl
      try simp only [Act.put, List.setIfInBounds_toArray, List.set_cons_zero, List.set_cons_succ]
      refine heldF_take (v := .agg #[.int .i64 (wd : Int), .int .i64 (ht : Int), .slice (some ⟨g, 0, none⟩) n n]) (Or.inl ⟨by rfl, ?_⟩) ?_
      · intro w' hSw
        exact exec_row 55 _ rfl s rfl _ _ hSw.1 _ Try.underlying55 rfl (by kernel_rfl)
      try simp only [Act.put, List.setIfInBounds_toArray, List.set_cons_zero, List.set_cons_succ]
      refine heldF_take (v := ?_) (Or.inl ⟨by rfl, ?_⟩) ?_
      rotate_left 1
      · intro w' hSw
        go_simp
        try with_reducible rfl
      try simp only [Act.put, List.setIfInBounds_toArray, List.set_cons_zero, List.set_cons_succ]
      refine heldF_take (v := ?_) (Or.inl ⟨by rfl, ?_⟩) ?_
      rotate_left 1
      · intro w' hSw
        go_simp
        try with_reducible rfl
      try simp only [Act.put, List.setIfInBounds_toArray, List.set_cons_zero, List.set_cons_succ]
      refine heldF_take (v := ?_) (Or.inl ⟨by rfl, ?_⟩) ?_
      rotate_left 1
      · intro w' hSw
        go_simp
        try with_reducible rfl
      try simp only [Act.put, List.setIfInBounds_toArray, List.set_cons_zero, List.set_cons_succ]
      refine heldF_take (v := ?_) (Or.inl ⟨by rfl, ?_⟩) ?_
      rotate_left 1
      · intro w' hSw
        go_simp
        try with_reducible rfl
      try simp only [Act.put, List.setIfInBounds_toArray, List.set_cons_zero, List.set_cons_succ]
      refine heldF_take (v := ?_) (Or.inl ⟨by rfl, ?_⟩) ?_
      rotate_left 1
      · intro w' hSw
        have cc : w'.cell? ⟨s, 1, none⟩ = some (.int .i64 (ht : Int)) := by rw [cell_of_row w' _ 1 _ _ (0, 0) hSw.1]; rfl
        go_simp
        try with_reducible rfl
      try simp only [Act.put, List.setIfInBounds_toArray, List.set_cons_zero, List.set_cons_succ]
      refine heldF_take (v := ?_) (Or.inl ⟨by rfl, ?_⟩) ?_
      rotate_left 1
      · intro w' hSw
        go_simp
        try with_reducible rfl
      try simp only [Act.put, List.setIfInBounds_toArray, List.set_cons_zero, List.set_cons_succ]
      refine heldF_take (v := ?_) (Or.inl ⟨by rfl, ?_⟩) ?_
      rotate_left 1
      · intro w' hSw
        go_simp
        try with_reducible rfl
      try simp only [Act.put, List.setIfInBounds_toArray, List.set_cons_zero, List.set_cons_succ]
      refine heldF_skip ?_
      refine heldF_skip ?_
      refine heldF_skip ?_
      refine heldF_nil ?_
      refine tailF_skip ?_
      refine tailF_skip ?_
      refine tailF_skip ?_
      refine tailF_step (fun K hK => ?_)
      go_simp
      refine (toneRow nw nh q m r k hnw hnh.2 hlt HM HK w4).mono ?_
      rintro e w5 ⟨rfl, g5⟩
      refine hK.out _ _ ⟨grown_atG g5 (unhide x0) (by simp), grown_atG g5 (unhide x3) (by simp)⟩ ?_
      clear hK K
      try simp only [Act.put, List.setIfInBounds_toArray, List.set_cons_zero, List.set_cons_succ]
      refine tailF_skip ?_
      refine tailF_skip ?_
      refine tailF_skip ?_
      refine tailF_skip ?_
      refine tailF_skip ?_
      refine tailF_skip ?_
      refine tailF_skip ?_
      refine tailF_skip ?_
      refine tailF_skip ?_
      refine tailF_step (fun K hK => ?_)
      go_simp
      refine (toneRow wd ht g n ry lo hw hh.2 hry HN HLO w5).mono ?_
      rintro e w6 ⟨rfl, g6⟩
      refine hK.out _ _ ⟨grown_atG (grown_trans g5 g6) (unhide x0) (by simp), grown_atG (grown_trans g5 g6) (unhide x3) (by simp)⟩ ?_
      clear hK K
      try simp only [Act.put, List.setIfInBounds_toArray, List.set_cons_zero, List.set_cons_succ]
      refine tailF_step (fun K hK => ?_)
      go_simp
      refine hK.out _ _ ⟨grown_atG (grown_trans g5 g6) (unhide x0) (by simp), grown_atG (grown_trans g5 g6) (unhide x3) (by simp)⟩ ?_
      clear hK K
      try simp only [Act.put, List.setIfInBounds_toArray, List.set_cons_zero, List.set_cons_succ]
      refine tailF_step (fun K hK => ?_)
      go_simp
      refine hK.out _ _ ⟨grown_atG (grown_trans g5 g6) (unhide x0) (by simp), grown_atG (grown_trans g5 g6) (unhide x3) (by simp)⟩ ?_
      clear hK K
      try simp only [Act.put, List.setIfInBounds_toArray, List.set_cons_zero, List.set_cons_succ]
      refine tailF_nil (NoPanic.normal ?_)
      try simp only [Act.put]
      have HD5 : Hid (wr.grownBy w6 none) := grown_trans (unhide HD) (grown_trans g5 g6)
      have HQ6 := hide ((unhide HQR).grown (grown_trans g5 g6))
      have HR6 := hide (((unhide HBR).grown (grown_trans g5 g6)).rd lo wd (by have := unhide HL; omega))
      have hdc : Nat.min wd nw = wd := by simp [Nat.min_def]; omega
      have HFIT : Hid (k + wd ≤ (laidTo X k).length) := by unfold Hid; rw [laidTo_len X k (by have := unhide HXL; omega), unhide HXL]; omega
      have Y1 := hide (grown_atG (unhide HD5) (unhide y1) (by simp))
      go_wp2_with ((refine wpList_copyB rfl _ _ _ _ rfl 73 Try.underlying53 (by kernel_rfl) q k nw _ g lo wd _ rfl rfl .u16 73 (laidTo X k) (unhide HQ6) ((L.drop lo).take wd) wd hdc (unhide HR6) (unhide HFIT) _ (unhide HSP) ?_; intro w7 hQ7 g7))
      have HQ7 := hide hQ7
      have HG7 : Hid (W1.grownBy w7 (some q)) := grown_trans (unhide HGR) (grown_trans (grown_any (unhide HD5)) g7)
      clear hQ7 g7 HQ6 HR6 HFIT Y1 HQR HBR HSP x0 x1 x3 y1 HD HD5 g5 g6 hdc
      go_loopw [9] (fun cv wx => ∃ (c : Nat), (wd ≤ c ∧ c ≤ nw) ∧ cv = .int .i64 c ∧ Hid (Blk .u16 73 wx q (laidTo X (k + c))) ∧ Hid (W1.grownBy wx (some q))) (fun cv _ => nw - (intOf cv).toNat)
      case atStart => exact ⟨wd, by omega, by go_num, HQ7, HG7⟩
      case round =>
        clear HQ7 HG7 HGR
        obtain ⟨c, hc, rfl, HQR, HGR⟩ := hrel
        obtain ⟨wx, HWX⟩ : ∃ wx, Hid (wx = wr) := ⟨_, rfl⟩
        have y1 := grown_atG (unhide HGR) (unhide p1) (by have := unhide HQS; simp; omega)
        have cy : wr.cell? ⟨s + 1, 0, none⟩ = some (.int .i64 (nw : Int)) := by rw [cell_of_row wr _ 0 _ _ (0, 0) y1]; rfl
        clear y1
        by_cases hcl : c < nw
        · have hcI : (c : Int) < (nw : Int) := by omega
          have f1 := i64_in ((c : Int) + 1) (by omega)
          have f2 := i64_in ((wd : Int) - 1) (by omega)
          have y0 := grown_atG (unhide HGR) (unhide p0) (by have := unhide HQS; simp; omega)
          have cx : wr.cell? ⟨s, 0, none⟩ = some (.int .i64 (wd : Int)) := by rw [cell_of_row wr _ 0 _ _ (0, 0) y0]; rfl
          obtain ⟨z, HZ⟩ : ∃ z, Hid (L.getD (lo + (wd - 1)) 0 = z) := ⟨_, rfl⟩
          have HBR := (unhide HB1).beside (unhide HGR) (by have := unhide HGL; have := unhide HQS; simp; omega)
          have ck := HBR.cell (lo + (wd - 1)) (by have := unhide HL; omega)
          rw [unhide HZ] at ck
          obtain ⟨wl, rfl⟩ : ∃ j : Nat, wd = j + 1 := ⟨wd - 1, by omega⟩
          have f3 : (((wl + 1 : Nat) : Int) - 1) = (wl : Int) := by omega
          have f4 : lo + (wl + 1 - 1) = lo + wl := by omega
          rw [f4] at ck
          rw [f3] at f2
          have f5 : (0 : Int) ≤ (wl : Int) := by omega
          have f6 : (wl : Int) < ((wl + 1 : Nat) : Int) := by omega
          have HLK : Hid ((laidTo X (k + c)).length = m) := by unfold Hid; rw [laidTo_len X (k + c) (by have := unhide HXL; omega), unhide HXL]
          have cq := (unhide HQR).cell (k + c) (by rw [unhide HLK]; omega)
          have fq := (unhide HQR).frozen (k + c)
          have HQ' : Hid (Blk .u16 73 (wr.setCell ⟨q, k + c, none⟩ (.int .u16 z)) q (laidTo X (k + (c + 1)))) := by
            unfold Hid
            rw [← Nat.add_assoc, ← laidTo_set X (k + c) (by have := unhide HXL; omega) z (by rw [unhide HAT c hcl, ← unhide HZ, show min c (wl + 1 - 1) = wl + 1 - 1 by omega])]
            exact (unhide HQR).set (k + c) z
          have HG' := hide (grown_trans (unhide HGR) (grown_set wr q (k + c) (.int .u16 z)))
          clear y0 HBR f4
          go_wp2
          go_roundw
          case rel => exact ⟨c + 1, by omega, by go_num, HQ', HG'⟩
          case measure => simp [intOf]; omega
        · obtain rfl : nw = c := by omega
          have hcd : decide ((nw : Int) < (nw : Int)) = false := decide_eq_false (by omega)
          have HK' : Hid ((r + 1) * nw = k + nw) := by unfold Hid; rw [Nat.add_mul, Nat.one_mul, unhide HK]
          go_wp2
          go_roundw
          case rel => exact ⟨r + 1, k + nw, by omega, by go_num, HK', HQR, HGR⟩
          case measure => simp [intOf]; omega
    · obtain rfl : nh = r := by omega
      have HALL : Hid (laidTo X k = X) := by unfold Hid; rw [← unhide HK, Nat.mul_comm nh nw, unhide HM, ← unhide HXL]; exact laidTo_all X
      have HO2 := hide (grown_atG (unhide HGR) (unhide p2) (by have := unhide HQS; simp; omega))
      have HO3 := hide (grown_atG (unhide HGR) (unhide p3) (by have := unhide HQL; simp; omega))
      rw [unhide HALL] at HQR
      go_wp2_with (first | (refine load_row rfl 57 _ rfl s1 rfl #[.int .i64 (nw : Int), .int .i64 (nh : Int), .slice (some ⟨q, 0, none⟩) m m] 57 (unhide HO3) _ Try.underlying57 rfl (by kernel_rfl) ?_) | (refine store_row rfl 57 _ _ rfl (s + 1 + 1) rfl #[.int .i64 (nw : Int), .int .i64 (nh : Int), .slice (some ⟨q, 0, none⟩) m m] rfl _ 57 (unhide HO2) rfl (by kernel_rfl) (by simp [Value.oneCell']) ?_; intro w9 hB9 g9))
      refine bodyPost_ret (v := .agg #[.int .i64 (nw : Int), .int .i64 (nh : Int), .slice (some ⟨q, 0, none⟩) m m]) ?_ rfl ⟨q, rfl, (unhide HQR).beside g9 (by have := unhide HQS; simp; omega), ?_⟩
      · rw [results_c1 rfl]
        exact run_loadVar_row w9 _ 57 57 _ (0, 0) _ hB9 Try.underlying57 rfl (by kernel_rfl)
      · exact grown_new (grown_new (grown_trans (unhide HG0) (unhide G1)) (unhide HGR) (fun k e => by simp at e; have := unhide HS; have := unhide HQS; omega)) g9 (fun k e => by simp at e; have := unhide HS; omega)

end Go.Proofs.Ytkefpjbdkhifhaa
