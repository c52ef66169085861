/-
  Planes that are made greater, in the program (written by gen_tone3.py).
-/
import Derived.Test.YtkefpjbdkhifhaaToneMake
import Derived.Test.YtkefpjbdkhifhaaToneCopy
import Derived.Test.YtkefpjbdkhifhaaSpotNum
import Derived.Test.YtkefpjbdkhifhaaRangeStop
namespace Go.Proofs.Ytkefpjbdkhifhaa
open Go.RowKit Go.Shelf

attribute [local go_sem] Oper.semAt_some

set_option maxRecDepth 100000 in
set_option maxHeartbeats 6400000 in
theorem grown : TurnC 51 (fun wd ht nw nh => wd ≤ nw ∧ ht ≤ nh) (fun L wd ht nw nh => growL L wd ht nw nh) := by
  intro wd ht g n nw nh m L W hw hh HN hn hnw hnh HM hm hok hB hL h0
  have HL := hide hL
  have H0 := hide h0
  have HOK := hide hok
  have HGL : Hid (g < W.heap.size) := hB.lt
  obtain ⟨W0, hW0⟩ : ∃ W0, ((W.alloc (.cells #[.int .i64 (wd : Int), .int .i64 (ht : Int), .slice (some ⟨g, 0, none⟩) n n] 57)).alloc (.cells #[.int .i64 (nw : Int), .int .i64 (nh : Int)] 48)).alloc (.cells #[.int .i64 0, .int .i64 0, .slice none 0 0] 57) = W0 := ⟨_, rfl⟩
  have HG0 : Hid (W.grownBy W0 none) := by rw [← hW0]; exact grown_alloc (grown_alloc (World.grownBy_alloc _ _ _) _) _
  have b0 : Hid (W0.heap[W.heap.size]? = some (.cells #[.int .i64 (wd : Int), .int .i64 (ht : Int), .slice (some ⟨g, 0, none⟩) n n] 57 (0, 0))) := by rw [← hW0, Below.heap_alloc _ _ _ (by simp <;> omega), Below.heap_alloc _ _ _ (by simp)]; exact heap_alloc_new W _
  have b1 : Hid (W0.heap[W.heap.size + 1]? = some (.cells #[.int .i64 (nw : Int), .int .i64 (nh : Int)] 48 (0, 0))) := by
    rw [← hW0, Below.heap_alloc _ _ _ (by simp)]
    have := heap_alloc_new (W.alloc (.cells #[.int .i64 (wd : Int), .int .i64 (ht : Int), .slice (some ⟨g, 0, none⟩) n n] 57)) (.cells #[.int .i64 (nw : Int), .int .i64 (nh : Int)] 48)
    unfold Hid
    simpa using this
  have b2 : Hid (W0.heap[W.heap.size + 1 + 1]? = some (.cells #[.int .i64 0, .int .i64 0, .slice none 0 0] 57 (0, 0))) := by
    rw [← hW0]
    have := heap_alloc_new ((W.alloc (.cells #[.int .i64 (wd : Int), .int .i64 (ht : Int), .slice (some ⟨g, 0, none⟩) n n] 57)).alloc (.cells #[.int .i64 (nw : Int), .int .i64 (nh : Int)] 48)) (.cells #[.int .i64 0, .int .i64 0, .slice none 0 0] 57)
    unfold Hid
    simpa using this
  have HS0 : Hid (W0.heap.size = W.heap.size + 3) := by rw [← hW0]; simp [Hid]
  have HB0 := hide (hB.grown (unhide HG0))
  have HW := hide hW0
  obtain ⟨X, HX⟩ : ∃ X, Hid (growL L wd ht nw nh = X) := ⟨_, rfl⟩
  have HXL : Hid (X.length = m) := by unfold Hid; rw [← unhide HX, ← unhide HM]; exact gridL_len _ _ _
  dsimp only
  rw [unhide HX]
  clear hW0 hB hL h0 hok
  refine (callsIn_wide (n := 0)).1 ?_
  refine callsIn_of_wp_marks Try.func51 rfl trivial ?_ rfl
  refine wpIn_wide.2 ?_
  simp only [Try.ntmps51, List.size_toArray, List.length_cons, List.length_nil, Nat.reduceAdd, Nat.reduceSub, Array.replicate_succ, Array.replicate_zero, List.push_toArray, List.append_toArray, List.nil_append, List.cons_append]
  go_wp2_with fail
  rw [unhide HW]
  refine (newTones nw nh m hnw.2 hnh.2 HM W0).mono ?_
  rintro e w1 ⟨q, rfl, hQ, hge, g1⟩
  have HQL : Hid (q < w1.heap.size) := hQ.lt
  have HGE := hide hge
  obtain ⟨W1, hW1⟩ : ∃ W1, w1.alloc (.cells #[.int .i64 (nw : Int), .int .i64 (nh : Int), .slice (some ⟨q, 0, none⟩) m m] 57) = W1 := ⟨_, rfl⟩
  have G1 : Hid (W0.grownBy W1 none) := by rw [← hW1]; exact grown_alloc g1 _
  have HQ1 : Hid (Blk .u16 73 W1 q (laidTo X 0)) := by rw [← hW1, laidTo_zero, unhide HXL]; exact hQ.grown (World.grownBy_alloc _ _ _)
  have HB1 := hide ((unhide HB0).grown (unhide G1))
  have p0 := hide (grown_atG (unhide G1) (unhide b0) (by simp))
  have p1 := hide (grown_atG (unhide G1) (unhide b1) (by simp))
  have p2 := hide (grown_atG (unhide G1) (unhide b2) (by simp))
  have p3 : Hid (W1.heap[w1.heap.size]? = some (.cells #[.int .i64 (nw : Int), .int .i64 (nh : Int), .slice (some ⟨q, 0, none⟩) m m] 57 (0, 0))) := by rw [← hW1]; exact heap_alloc_new w1 _
  have HS1 : Hid (W.heap.size + 3 ≤ w1.heap.size) := by have := g1.size; have := unhide HS0; unfold Hid; omega
  have HW1 := hide hW1
  generalize hs : W.heap.size = s at *
  have HS := hide hs
  clear hs
  have c0 : W1.cell? ⟨s, 0, none⟩ = some (.int .i64 (wd : Int)) := by rw [cell_of_row W1 _ 0 _ _ (0, 0) (unhide p0)]; rfl
  have c1 : W1.cell? ⟨s, 1, none⟩ = some (.int .i64 (ht : Int)) := by rw [cell_of_row W1 _ 1 _ _ (0, 0) (unhide p0)]; rfl
  have c2 : W1.cell? ⟨s + 1, 0, none⟩ = some (.int .i64 (nw : Int)) := by rw [cell_of_row W1 _ 0 _ _ (0, 0) (unhide p1)]; rfl
  have c3 : W1.cell? ⟨s + 1, 1, none⟩ = some (.int .i64 (nh : Int)) := by rw [cell_of_row W1 _ 1 _ _ (0, 0) (unhide p1)]; rfl
  have d2 : (w1.alloc (.cells #[.int .i64 (nw : Int), .int .i64 (nh : Int), .slice (some ⟨q, 0, none⟩) m m] 57)).cell? ⟨s + 1, 0, none⟩ = some (.int .i64 (nw : Int)) := by rw [unhide HW1]; exact c2
  have d3 : (w1.alloc (.cells #[.int .i64 (nw : Int), .int .i64 (nh : Int), .slice (some ⟨q, 0, none⟩) m m] 57)).cell? ⟨s + 1, 1, none⟩ = some (.int .i64 (nh : Int)) := by rw [unhide HW1]; exact c3
  clear hQ hge g1 hW1 HB0 HW b0 b1 b2
  go_wp2_with fail
  rw [unhide HW1]
  generalize hs1 : w1.heap.size = s1 at *
  clear hs1 HW1 d2 d3
  have HQS : Hid (s + 3 ≤ q) := by have := unhide HGE; have := unhide HS0; unfold Hid; omega
  refine (callsIn_wide.1 (spots_in Fence.wide 0 trivial rfl _ _ _)).mono ?_
  rintro e w' ⟨rfl, rfl⟩
  obtain ⟨w8, hw8⟩ : ∃ w8, W1.alloc (.cells #[.int .i64 (nw : Int), .int .i64 (nh : Int)] 48) = w8 := ⟨_, rfl⟩
  have g8 : W1.grownBy w8 none := by rw [← hw8]; exact World.grownBy_alloc _ _ _
  have s8 : w8.heap.size = W1.heap.size + 1 := by rw [← hw8]; simp
  have BA8 : Hid (w8.heap[W1.heap.size]? = some (.cells #[.int .i64 (nw : Int), .int .i64 (nh : Int)] 48 (0, 0))) := by rw [← hw8]; exact heap_alloc_new _ _
  rw [hw8]
  have G8 := hide g8
  have HQ8 := hide ((unhide HQ1).grown g8)
  have HB8 := hide ((unhide HB1).grown g8)
  have r0 := hide (grown_atG g8 (unhide p0) (by simp))
  have r1 := hide (grown_atG g8 (unhide p1) (by simp))
  have r2 := hide (grown_atG g8 (unhide p2) (by simp))
  have r3 := hide (grown_atG g8 (unhide p3) (by simp))
  have HL1 : Hid (q < W1.heap.size ∧ s1 < W1.heap.size ∧ s + 3 ≤ s1) := ⟨(unhide HQ1).lt, (Array.getElem?_eq_some_iff.1 (unhide p3)).1, unhide HS1⟩
  have HS8 := hide s8
  clear hw8 g8 s8 HQ1 HB1 p0 p1 p2 p3 c0 c1 c2 c3
  go_wp2
  refine (wpIn_wide (n := 0)).1 ?_
  refine rangeFunc_gives (gf := 82) (lb := #[.pointer (some ⟨W1.heap.size, 0, none⟩)]) (O := fun k => k = q) rfl (enters_of Try.func82 (by kernel_rfl) rfl) (fun k hk => by have := unhide HL1; have := unhide HS8; omega)
    (spots_gives W1.heap.size nw nh (by omega) (by omega) _ w8 (unhide BA8) (fun e => by have := unhide HL1; omega)) (fun _ => rfl)
    (fun pre Wk => Blk .u16 73 Wk q (laidTo X pre.length)) (fun pre A A' h hk => h.same (hk q rfl)) (unhide HQ8) ?a1 ?assign ?body ?done
  case assign =>
    intro l' mm x Wa K hK
    gi_wp2
    exact hK
  case body =>
    intro l' mm pre x Wa hI hb hlen
    obtain ⟨hk1, hk2, hk3⟩ := spot_num hlen
    obtain ⟨y, xx⟩ := x
    dsimp only at hk1 hk2 hk3 ⊢
    have HK := hide hk1
    have HI := hide hI
    have HBB := hide hb
    have hok := unhide HOK
    have HNE : Hid (s ≠ q ∧ s + 1 ≠ q ∧ s1 ≠ q ∧ g ≠ q) := by have := unhide HQS; have := unhide HQL; have := unhide HGL; have := unhide HS; exact ⟨by omega, by omega, by omega, by omega⟩
    have l8 := unhide HL1
    have s8 := unhide HS8
    have y0 := hide ((hb.block s (by omega) (fun e => (unhide HNE).1 e)).trans (unhide r0))
    have y1 := hide ((hb.block (s + 1) (by omega) (fun e => (unhide HNE).2.1 e)).trans (unhide r1))
    have y3 := hide ((hb.block s1 (by omega) (fun e => (unhide HNE).2.2.1 e)).trans (unhide r3))
    have HBa : Hid (Blk .u16 73 Wa g L) := (unhide HB8).same (hb.block g (by have := unhide HGL; have := unhide HS; omega) (fun e => (unhide HNE).2.2.2 e))
    obtain ⟨a1, HA1⟩ : ∃ a : Nat, Hid (y * ht = a) := ⟨_, rfl⟩
    obtain ⟨a2, HA2⟩ : ∃ a : Nat, Hid (a1 / nh = a) := ⟨_, rfl⟩
    obtain ⟨a4, HA4⟩ : ∃ a : Nat, Hid (xx * wd = a) := ⟨_, rfl⟩
    obtain ⟨a5, HA5⟩ : ∃ a : Nat, Hid (a4 / nw = a) := ⟨_, rfl⟩
    obtain ⟨ix, HIX⟩ : ∃ i : Nat, Hid (a2 * wd + a5 = i) := ⟨_, rfl⟩
    have l1' : a1 ≤ 1048576 := by rw [← unhide HA1]; exact Nat.mul_le_mul (by omega : y ≤ 1024) (by omega : ht ≤ 1024)
    have l4 : a4 ≤ 1048576 := by rw [← unhide HA4]; exact Nat.mul_le_mul (by omega : xx ≤ 1024) (by omega : wd ≤ 1024)
    have l2 : a2 < ht := by
      rw [← unhide HA2, ← unhide HA1]
      exact Nat.div_lt_of_lt_mul (Nat.mul_lt_mul_of_pos_right hk2 (by omega))
    have l5 : a5 < wd := by
      rw [← unhide HA5, ← unhide HA4]
      exact Nat.div_lt_of_lt_mul (Nat.mul_lt_mul_of_pos_right hk3 (by omega))
    have hix : ix < n := by
      have h1 := row_end (w := wd) l2
      rw [Nat.mul_comm ht wd, unhide HN] at h1
      have := unhide HIX
      omega
    have hkm : pre.length < m := by
      have h1 := row_end (w := nw) hk2
      rw [Nat.mul_comm nh nw, unhide HM] at h1
      omega
    have k1 : IntKind.i64.wrap ((y : Int) * (ht : Int)) = (a1 : Int) := by
      have e : (y : Int) * (ht : Int) = (a1 : Int) := by have := unhide HA1; exact_mod_cast this
      rw [e, i64_in _ (by omega)]
    have k2 : (a1 : Int).tdiv (nh : Int) = (a2 : Int) := by
      rw [Int.tdiv_eq_ediv_of_nonneg (by omega)]
      have := unhide HA2
      exact_mod_cast this
    have k4 : IntKind.i64.wrap ((xx : Int) * (wd : Int)) = (a4 : Int) := by
      have e : (xx : Int) * (wd : Int) = (a4 : Int) := by have := unhide HA4; exact_mod_cast this
      rw [e, i64_in _ (by omega)]
    have k5 : (a4 : Int).tdiv (nw : Int) = (a5 : Int) := by
      rw [Int.tdiv_eq_ediv_of_nonneg (by omega)]
      have := unhide HA5
      exact_mod_cast this
    have k7 := i64_in (a2 : Int) (by omega)
    have k8 := i64_in (a5 : Int) (by omega)
    have z1 : ((nh : Int) == 0) = false := beq_eq_false_iff_ne.2 (by omega)
    have z2 : ((nh : Int) == -1) = false := beq_eq_false_iff_ne.2 (by omega)
    have z3 : ((nw : Int) == 0) = false := beq_eq_false_iff_ne.2 (by omega)
    have z4 : ((nw : Int) == -1) = false := beq_eq_false_iff_ne.2 (by omega)
    have z5 : ¬ nh = 0 := by omega
    have z6 : ¬ nw = 0 := by omega
    obtain ⟨z, HZ⟩ : ∃ z, Hid (L.getD ix 0 = z) := ⟨_, rfl⟩
    have HSET : Hid ((laidTo X pre.length).set pre.length z = laidTo X (pre.length + 1)) := by
      refine laidTo_set X pre.length (by rw [unhide HXL]; exact hkm) z ?_
      rw [← unhide HX, growL, ← unhide HK, gridL_at _ hk2 hk3, unhide HA1, unhide HA2, unhide HA4, unhide HA5, unhide HIX, unhide HZ]
    have hn1 : (pre ++ [(y, xx)]).length = pre.length + 1 := by simp
    rw [hn1]
    obtain ⟨pl, HPL⟩ : ∃ k, Hid (pre.length = k) := ⟨_, rfl⟩
    rw [unhide HPL] at HSET HK HI ⊢
    rw [unhide HPL] at hkm
    have HYK : Hid (y * nw + xx = pl) := HK
    clear hI hb hlen hk1 hn1 HPL
    gi_wp2
    refine wpIn_raw (fun W => W.heap[s]? = some (.cells #[.int .i64 (wd : Int), .int .i64 (ht : Int), .slice (some ⟨g, 0, none⟩) n n] 57 (0, 0)) ∧ W.heap[s1]? = some (.cells #[.int .i64 (nw : Int), .int .i64 (nh : Int), .slice (some ⟨q, 0, none⟩) m m] 57 (0, 0)) ∧ W.heap[s + 1]? = some (.cells #[.int .i64 (nw : Int), .int .i64 (nh : Int)] 48 (0, 0))) [true, true, true, true, true, true, true, true, true, true, true, true, true, true, true, true, true, true, true, true, true, true, true, true, false, false] (by kernel_rfl) (fun _ _ h => h) (fun _ _ _ _ _ h => h) rfl (by kernel_rfl) (by kernel_rfl) ⟨unhide y0, unhide y3, unhide y1⟩ ?_
    have z0 : Hid (Wa.drew.heap[s]? = _) := unhide y0
    have zz3 : Hid (Wa.drew.heap[s1]? = _) := unhide y3
    have zz1 : Hid (Wa.drew.heap[s + 1]? = _) := unhide y1
    have HBd : Hid (Blk .u16 73 Wa.drew g L) := unhide HBa
    have HId : Hid (Blk .u16 73 Wa.drew q (laidTo X pl)) := unhide HI
    have GD : Hid (Wa.grownBy Wa.drew none) := grown_drew (World.grownBy.refl _ _)
    generalize Wa.drew = Wd at *
    refine heldF_take (v := ?_) (Or.inl ⟨by rfl, ?_⟩) ?_
    rotate_left 1
    · intro w' hSw
      go_simp
      try with_reducible rfl
    try simp only [Act.put, List.setIfInBounds_toArray, List.set_cons_zero, List.set_cons_succ]
    refine heldF_take (v := .agg #[.int .i64 (nw : Int), .int .i64 (nh : Int), .slice (some ⟨q, 0, none⟩) m m]) (Or.inl ⟨by rfl, ?_⟩) ?_
    · intro w' hSw
      exact exec_row 55 _ rfl s1 rfl _ _ hSw.2.1 _ Try.underlying55 rfl (by kernel_rfl)
    try simp only [Act.put, List.setIfInBounds_toArray, List.set_cons_zero, List.set_cons_succ]
    refine heldF_take (v := ?_) (Or.inl ⟨by rfl, ?_⟩) ?_
    rotate_left 1
    · intro w' hSw
      go_simp
      try with_reducible rfl
    try simp only [Act.put, List.setIfInBounds_toArray, List.set_cons_zero, List.set_cons_succ]
    refine heldF_take (v := ?_) (Or.inl ⟨by rfl, ?_⟩) ?_
    rotate_left 1
    · intro w' hSw
      go_simp
      try with_reducible rfl
    try simp only [Act.put, List.setIfInBounds_toArray, List.set_cons_zero, List.set_cons_succ]
    refine heldF_take (v := ?_) (Or.inl ⟨by rfl, ?_⟩) ?_
    rotate_left 1
    · intro w' hSw
      go_simp
      try with_reducible rfl
    try simp only [Act.put, List.setIfInBounds_toArray, List.set_cons_zero, List.set_cons_succ]
    refine heldF_take (v := .agg #[.int .i64 (wd : Int), .int .i64 (ht : Int), .slice (some ⟨g, 0, none⟩) n n]) (Or.inl ⟨by rfl, ?_⟩) ?_
    · intro w' hSw
      exact exec_row 55 _ rfl s rfl _ _ hSw.1 _ Try.underlying55 rfl (by kernel_rfl)
    try simp only [Act.put, List.setIfInBounds_toArray, List.set_cons_zero, List.set_cons_succ]
    refine heldF_take (v := ?_) (Or.inl ⟨by rfl, ?_⟩) ?_
    rotate_left 1
    · intro w' hSw
      go_simp
      try with_reducible rfl
    try simp only [Act.put, List.setIfInBounds_toArray, List.set_cons_zero, List.set_cons_succ]
    refine heldF_take (v := ?_) (Or.inl ⟨by rfl, ?_⟩) ?_
    rotate_left 1
    · intro w' hSw
      go_simp
      try with_reducible rfl
    try simp only [Act.put, List.setIfInBounds_toArray, List.set_cons_zero, List.set_cons_succ]
    refine heldF_take (v := ?_) (Or.inl ⟨by rfl, ?_⟩) ?_
    rotate_left 1
    · intro w' hSw
      go_simp
      try with_reducible rfl
    try simp only [Act.put, List.setIfInBounds_toArray, List.set_cons_zero, List.set_cons_succ]
    refine heldF_take (v := ?_) (Or.inl ⟨by rfl, ?_⟩) ?_
    rotate_left 1
    · intro w' hSw
      go_simp
      try with_reducible rfl
    try simp only [Act.put, List.setIfInBounds_toArray, List.set_cons_zero, List.set_cons_succ]
    refine heldF_take (v := ?_) (Or.inl ⟨by rfl, ?_⟩) ?_
    rotate_left 1
    · intro w' hSw
      obtain ⟨q0, q3, q1⟩ := hSw
      have ca : w'.cell? ⟨s, 0, none⟩ = some (.int .i64 (wd : Int)) := by rw [cell_of_row w' _ 0 _ _ (0, 0) q0]; rfl
      have cb : w'.cell? ⟨s, 1, none⟩ = some (.int .i64 (ht : Int)) := by rw [cell_of_row w' _ 1 _ _ (0, 0) q0]; rfl
      have cc : w'.cell? ⟨s + 1, 0, none⟩ = some (.int .i64 (nw : Int)) := by rw [cell_of_row w' _ 0 _ _ (0, 0) q1]; rfl
      have cd : w'.cell? ⟨s + 1, 1, none⟩ = some (.int .i64 (nh : Int)) := by rw [cell_of_row w' _ 1 _ _ (0, 0) q1]; rfl
      go_simp
      try with_reducible rfl
    try simp only [Act.put, List.setIfInBounds_toArray, List.set_cons_zero, List.set_cons_succ]
    refine heldF_take (v := ?_) (Or.inl ⟨by rfl, ?_⟩) ?_
    rotate_left 1
    · intro w' hSw
      go_simp
      try with_reducible rfl
    try simp only [Act.put, List.setIfInBounds_toArray, List.set_cons_zero, List.set_cons_succ]
    refine heldF_take (v := ?_) (Or.inl ⟨by rfl, ?_⟩) ?_
    rotate_left 1
    · intro w' hSw
      go_simp
      try with_reducible rfl
    try simp only [Act.put, List.setIfInBounds_toArray, List.set_cons_zero, List.set_cons_succ]
    refine heldF_take (v := ?_) (Or.inl ⟨by rfl, ?_⟩) ?_
    rotate_left 1
    · intro w' hSw
      obtain ⟨q0, q3, q1⟩ := hSw
      have ca : w'.cell? ⟨s, 0, none⟩ = some (.int .i64 (wd : Int)) := by rw [cell_of_row w' _ 0 _ _ (0, 0) q0]; rfl
      have cb : w'.cell? ⟨s, 1, none⟩ = some (.int .i64 (ht : Int)) := by rw [cell_of_row w' _ 1 _ _ (0, 0) q0]; rfl
      have cc : w'.cell? ⟨s + 1, 0, none⟩ = some (.int .i64 (nw : Int)) := by rw [cell_of_row w' _ 0 _ _ (0, 0) q1]; rfl
      have cd : w'.cell? ⟨s + 1, 1, none⟩ = some (.int .i64 (nh : Int)) := by rw [cell_of_row w' _ 1 _ _ (0, 0) q1]; rfl
      go_simp
      try with_reducible rfl
    try simp only [Act.put, List.setIfInBounds_toArray, List.set_cons_zero, List.set_cons_succ]
    refine heldF_take (v := ?_) (Or.inl ⟨by rfl, ?_⟩) ?_
    rotate_left 1
    · intro w' hSw
      go_simp
      try with_reducible rfl
    try simp only [Act.put, List.setIfInBounds_toArray, List.set_cons_zero, List.set_cons_succ]
    refine heldF_take (v := ?_) (Or.inl ⟨by rfl, ?_⟩) ?_
    rotate_left 1
    · intro w' hSw
      go_simp
      try with_reducible rfl
    try simp only [Act.put, List.setIfInBounds_toArray, List.set_cons_zero, List.set_cons_succ]
    refine heldF_take (v := ?_) (Or.inl ⟨by rfl, ?_⟩) ?_
    rotate_left 1
    · intro w' hSw
      go_simp
      try with_reducible rfl
    try simp only [Act.put, List.setIfInBounds_toArray, List.set_cons_zero, List.set_cons_succ]
    refine heldF_take (v := ?_) (Or.inl ⟨by rfl, ?_⟩) ?_
    rotate_left 1
    · intro w' hSw
      go_simp
      try with_reducible rfl
    try simp only [Act.put, List.setIfInBounds_toArray, List.set_cons_zero, List.set_cons_succ]
    refine heldF_take (v := ?_) (Or.inl ⟨by rfl, ?_⟩) ?_
    rotate_left 1
    · intro w' hSw
      go_simp
      try with_reducible rfl
    try simp only [Act.put, List.setIfInBounds_toArray, List.set_cons_zero, List.set_cons_succ]
    refine heldF_take (v := ?_) (Or.inl ⟨by rfl, ?_⟩) ?_
    rotate_left 1
    · intro w' hSw
      obtain ⟨q0, q3, q1⟩ := hSw
      have ca : w'.cell? ⟨s, 0, none⟩ = some (.int .i64 (wd : Int)) := by rw [cell_of_row w' _ 0 _ _ (0, 0) q0]; rfl
      have cb : w'.cell? ⟨s, 1, none⟩ = some (.int .i64 (ht : Int)) := by rw [cell_of_row w' _ 1 _ _ (0, 0) q0]; rfl
      have cc : w'.cell? ⟨s + 1, 0, none⟩ = some (.int .i64 (nw : Int)) := by rw [cell_of_row w' _ 0 _ _ (0, 0) q1]; rfl
      have cd : w'.cell? ⟨s + 1, 1, none⟩ = some (.int .i64 (nh : Int)) := by rw [cell_of_row w' _ 1 _ _ (0, 0) q1]; rfl
      go_simp
      try with_reducible rfl
    try simp only [Act.put, List.setIfInBounds_toArray, List.set_cons_zero, List.set_cons_succ]
    refine heldF_take (v := ?_) (Or.inl ⟨by rfl, ?_⟩) ?_
    rotate_left 1
    · intro w' hSw
      go_simp
      try with_reducible rfl
    try simp only [Act.put, List.setIfInBounds_toArray, List.set_cons_zero, List.set_cons_succ]
    refine heldF_take (v := ?_) (Or.inl ⟨by rfl, ?_⟩) ?_
    rotate_left 1
    · intro w' hSw
      go_simp
      try with_reducible rfl
    try simp only [Act.put, List.setIfInBounds_toArray, List.set_cons_zero, List.set_cons_succ]
    refine heldF_take (v := ?_) (Or.inl ⟨by rfl, ?_⟩) ?_
    rotate_left 1
    · intro w' hSw
      obtain ⟨q0, q3, q1⟩ := hSw
      have ca : w'.cell? ⟨s, 0, none⟩ = some (.int .i64 (wd : Int)) := by rw [cell_of_row w' _ 0 _ _ (0, 0) q0]; rfl
      have cb : w'.cell? ⟨s, 1, none⟩ = some (.int .i64 (ht : Int)) := by rw [cell_of_row w' _ 1 _ _ (0, 0) q0]; rfl
      have cc : w'.cell? ⟨s + 1, 0, none⟩ = some (.int .i64 (nw : Int)) := by rw [cell_of_row w' _ 0 _ _ (0, 0) q1]; rfl
      have cd : w'.cell? ⟨s + 1, 1, none⟩ = some (.int .i64 (nh : Int)) := by rw [cell_of_row w' _ 1 _ _ (0, 0) q1]; rfl
      go_simp
      try with_reducible rfl
    try simp only [Act.put, List.setIfInBounds_toArray, List.set_cons_zero, List.set_cons_succ]
    refine heldF_take (v := ?_) (Or.inl ⟨by rfl, ?_⟩) ?_
    rotate_left 1
    · intro w' hSw
      go_simp
      try with_reducible rfl
    try simp only [Act.put, List.setIfInBounds_toArray, List.set_cons_zero, List.set_cons_succ]
    refine heldF_skip (heldF_skip (heldF_nil ?_))
    refine anyH_step1 (i := 24) rfl (by kernel_rfl) (fun K hK => ?_)
    go_simp
    refine (toneAt wd ht g n a2 a5 ix L (by omega) (by omega) (by omega) HIX hix (unhide HL) Wd (unhide HBd)).mono ?_
    rintro e w5 ⟨rfl, g5⟩
    rw [unhide HZ]
    refine hK.out _ _ ⟨grown_atG g5 (unhide z0) (by simp), grown_atG g5 (unhide zz3) (by simp), grown_atG g5 (unhide zz1) (by simp)⟩ ?_
    clear hK K
    try simp only [Act.put, List.setIfInBounds_toArray, List.set_cons_zero, List.set_cons_succ]
    refine anyH_step1 (i := 25) rfl (by kernel_rfl) (fun K hK => ?_)
    go_simp
    refine (tonePut nw nh q m y xx pl (laidTo X pl) z (by omega) (by omega) (by omega) HYK hkm (by rw [laidTo_len X pl (by have := unhide HXL; omega), unhide HXL]) w5 ((unhide HId).grown g5)).mono ?_
    rintro e w6 ⟨⟨v, rfl⟩, hQ6, g6⟩
    rw [unhide HSET] at hQ6
    refine hK.out _ _ ⟨grown_atG g6 (grown_atG g5 (unhide z0) (by simp)) (by have := unhide HNE; simp; omega), grown_atG g6 (grown_atG g5 (unhide zz3) (by simp)) (by have := unhide HNE; simp; omega), grown_atG g6 (grown_atG g5 (unhide zz1) (by simp)) (by have := unhide HNE; simp; omega)⟩ ?_
    clear hK K
    try simp only [Act.put, List.setIfInBounds_toArray, List.set_cons_zero, List.set_cons_succ]
    refine wpAnyH_done (by kernel_rfl) ?_ _
    have hBut : But (fun k => k = q) Wa w6 := (But.of_grown (grown_trans (unhide GD) g5) (fun k e => by cases e)).trans (But.of_grown g6 (fun k e => by cases e; rfl))
    exact (⟨hQ6, hBut⟩ : _ ∧ _)
  case done =>
    intro D W9 hD hi b9 hdef
    have hlen9 : (sTo nw nh).length = m := by rw [sTo_len, Nat.mul_comm]; exact unhide HM
    rw [hlen9, ← unhide HXL, laidTo_all] at hi
    have l8 := unhide HL1
    have s8 := unhide HS8
    have hqs := unhide HQS
    have hql := unhide HQL
    have x2 := hide ((b9.block (s + 1 + 1) (by omega) (by show ¬ s + 1 + 1 = q; omega)).trans (unhide r2))
    have x3 := hide ((b9.block s1 (by omega) (by show ¬ s1 = q; omega)).trans (unhide r3))
    have HI9 := hide hi
    have HB9 := hide b9
    have HDEF := hide hdef
    clear hi b9 hdef hlen9
    go_wp2_with (first | (refine load_row rfl 57 _ rfl s1 rfl #[.int .i64 (nw : Int), .int .i64 (nh : Int), .slice (some ⟨q, 0, none⟩) m m] 57 (unhide x3) _ Try.underlying57 rfl (by kernel_rfl) ?_) | (refine store_row rfl 57 _ _ rfl (s + 1 + 1) rfl #[.int .i64 (nw : Int), .int .i64 (nh : Int), .slice (some ⟨q, 0, none⟩) m m] rfl _ 57 (unhide x2) rfl (by kernel_rfl) (by simp [Value.oneCell']) ?_; intro w9 hBq g9))
    refine ⟨by simp, .inl ⟨_, _, rfl, run_takeDeferred (grown_atG g9 (unhide HDEF) (by simp; omega)), ?_⟩⟩
    have hBr : (w9.putObj D (.deferred none)).heap[s + 1 + 1]? = some (.cells #[.int .i64 (nw : Int), .int .i64 (nh : Int), .slice (some ⟨q, 0, none⟩) m m] 57 (0, 0)) := (World.putObj_heap_other (by omega)).trans hBq
    have gW : W.grownBy (w9.putObj D (.deferred none)) none := by
      have b9 := unhide HB9
      have gp := grownBy_putObj' w9 D (.deferred none)
      have gd := grown_trans (grown_trans (unhide HG0) (unhide G1)) (unhide G8)
      have hs := unhide HS
      refine ⟨gp.os.trans (g9.os.trans (b9.os.trans gd.os)), gp.tape.trans (g9.tape.trans (b9.tape.trans gd.tape)), gp.output.trans (g9.output.trans (b9.output.trans gd.output)), Nat.le_trans gd.size (Nat.le_trans b9.size (Nat.le_trans g9.size gp.size)), fun k hk _ => ?_⟩
      have hgd := gd.size
      rw [World.putObj_heap_other (by omega), g9.block k (by have := b9.size; omega) (by simp; omega), b9.block k (by omega) (by show ¬ k = q; omega)]
      exact gd.block k hk (by simp)
    have hQr : Blk .u16 73 (w9.putObj D (.deferred none)) q X := ((unhide HI9).beside g9 (by simp; omega)).same (World.putObj_heap_other (by omega))
    exact ⟨_, (by rw [results_c1 rfl]; simp only [Array.getD_eq_getD_getElem?]; exact run_loadVar_row _ _ 57 57 _ (0, 0) _ hBr Try.underlying57 rfl (by kernel_rfl)), q, rfl, hQr, gW⟩

end Go.Proofs.Ytkefpjbdkhifhaa
