/-
  Crop, Shrink, Grow and Pad in the program (written by gen_samp2.py).
-/
import Derived.Test.YtkefpjbdkhifhaaToneCrop
import Derived.Test.YtkefpjbdkhifhaaTonePad
import Derived.Test.YtkefpjbdkhifhaaToneShrink
import Derived.Test.YtkefpjbdkhifhaaToneGrow
namespace Go.Proofs.Ytkefpjbdkhifhaa
open Go.RowKit Go.Shelf

theorem grid_vals {w h : Nat} {f : Nat → Nat → Int} {lo hi : Int} (hf : ∀ y x, y < h → x < w → lo ≤ f y x ∧ f y x ≤ hi) : ∀ v ∈ gridL w h f, lo ≤ v ∧ v ≤ hi := by
  intro v hv
  unfold gridL at hv
  obtain ⟨i, hi', rfl⟩ := List.mem_map.1 hv
  have hi2 : i < w * h := List.mem_range.1 hi'
  have hw : 0 < w := Nat.pos_of_ne_zero (fun e => by subst e; simp at hi2)
  exact hf _ _ (Nat.div_lt_of_lt_mul hi2) (Nat.mod_lt _ hw)
theorem tone_getD {L : List Int} (h0 : ∀ x ∈ L, 0 ≤ x ∧ x ≤ 4095) (i : Nat) : 0 ≤ L.getD i 0 ∧ L.getD i 0 ≤ 4095 := by
  by_cases hi : i < L.length
  · have e : L.getD i 0 = L[i] := by simp [hi]
    rw [e]
    exact h0 _ (List.getElem_mem hi)
  · have e : L.getD i 0 = 0 := by rw [List.getD_eq_getElem?_getD, List.getElem?_eq_none (by omega)]; rfl
    rw [e]
    omega
theorem down_sides {zs : List Int} {w h nw nh : Int} (h1 : nw ≤ w) (h2 : nh ≤ h) : (planeB zs w h && decide (1 ≤ nw ∧ nw ≤ w) && decide (1 ≤ nh ∧ nh ≤ h)) = (planeB zs w h && sidesB nw nh) := by
  cases hp : planeB zs w h with
  | false => rfl
  | true =>
    obtain ⟨a1, a2, _, a4, _⟩ := plane_of hp
    by_cases c1 : 1 ≤ nw
    · by_cases c2 : 1 ≤ nh
      · have hm : nw * nh ≤ w * h := Int.mul_le_mul h1 h2 (by omega) (by omega)
        simp [sidesB, c1, c2, h1, h2]
        omega
      · simp [sidesB, c2]
    · simp [sidesB, c1]

set_option maxRecDepth 20000 in
set_option maxHeartbeats 1600000 in
theorem implCrop (ao : Option Addr) (n cap : Nat) (zs : List Int) (w h nw nh : Int) (W : World) (hr : Rd .i64 W ao n zs) (hn : n ≤ 9223372036854775807) (L : List Int) (HL : Hid (cropG zs w h nw nh = L)) :
    Calls Try.prog 29 #[.slice ao n cap, .int .i64 w, .int .i64 h, .int .i64 nw, .int .i64 nh] W fun e W' => ∃ so sc, e = .returned (.slice so L.length sc) ∧ W'.ownsRow W.heap.size 3 1 (.slice so L.length sc) L.length (L.map (Value.int .i64)) ∧ W.grownBy W' none := by
  obtain ⟨t, HT⟩ : ∃ t, Hid ((decide (nw ≤ w) && decide (nh ≤ h)) = t) := ⟨_, rfl⟩
  have HR := hide hr
  clear hr
  obtain ⟨W0, hW0⟩ : ∃ W0, (W.alloc (.cells #[.int .i64 w, .int .i64 h] 48)).alloc (.cells #[.int .i64 nw, .int .i64 nh] 48) = W0 := ⟨_, rfl⟩
  have HG0 : Hid (W.grownBy W0 none) := by rw [← hW0]; exact grown_alloc (World.grownBy_alloc _ _ _) _
  have b0 : Hid (W0.heap[W.heap.size]? = some (.cells #[.int .i64 w, .int .i64 h] 48 (0, 0))) := by rw [← hW0, Below.heap_alloc _ _ _ (by simp)]; exact heap_alloc_new W _
  have b1 : Hid (W0.heap[W.heap.size + 1]? = some (.cells #[.int .i64 nw, .int .i64 nh] 48 (0, 0))) := by
    rw [← hW0]
    have := heap_alloc_new (W.alloc (.cells #[.int .i64 w, .int .i64 h] 48)) (.cells #[.int .i64 nw, .int .i64 nh] 48)
    unfold Hid
    simpa using this
  have HW := hide hW0
  clear hW0
  go_enter Try.func29, Try.ntmps29
  go_wp2_with fail
  rw [unhide HW]
  refine (covers w h nw nh t HT W0).mono ?_
  rintro e w1 ⟨rfl, g1⟩
  have HG1 := hide (grown_trans (unhide HG0) g1)
  have q0 := grown_atG g1 (unhide b0) (by simp)
  have q1 := grown_atG g1 (unhide b1) (by simp)
  have k0 : w1.cell? ⟨W.heap.size, 0, none⟩ = some (.int .i64 w) := by rw [cell_of_row w1 _ 0 _ _ (0, 0) q0]; rfl
  have k1 : w1.cell? ⟨W.heap.size, 1, none⟩ = some (.int .i64 h) := by rw [cell_of_row w1 _ 1 _ _ (0, 0) q0]; rfl
  have k2 : w1.cell? ⟨W.heap.size + 1, 0, none⟩ = some (.int .i64 nw) := by rw [cell_of_row w1 _ 0 _ _ (0, 0) q1]; rfl
  have k3 : w1.cell? ⟨W.heap.size + 1, 1, none⟩ = some (.int .i64 nh) := by rw [cell_of_row w1 _ 1 _ _ (0, 0) q1]; rfl
  clear g1 q0 q1 b0 b1 HW
  cases t with
  | false =>
    obtain rfl : L = [] := by
      rw [← unhide HL, cropG]
      have h1 := unhide HT
      rw [if_neg]
      intro e
      simp only [Bool.and_eq_true, decide_eq_true_eq, Bool.and_eq_false_iff, decide_eq_false_iff_not] at e h1
      omega
    go_wp2
    go_ret
    exact ⟨none, 0, rfl, ⟨rfl, .inl ⟨rfl, rfl⟩⟩, unhide HG1⟩
  | true =>
    have hc := unhide HT
    simp only [Bool.and_eq_true, decide_eq_true_eq] at hc
    have HC := hide hc
    have HL' : Hid ((if planeB zs w h && sidesB nw nh then (fun L wd _ nw nh => cropL L wd nw nh) zs w.toNat h.toNat nw.toNat nh.toNat else []) = L) := by
      unfold Hid
      rw [← unhide HL, cropG]
      rw [down_sides (unhide HC).1 (unhide HC).2]
    clear hc
    go_wp2_with fail
    refine (remade 67 (fun wd ht nw nh => nw ≤ wd ∧ nh ≤ ht) (fun L wd _ nw nh => cropL L wd nw nh) cropped (enters_of Try.func67 (by kernel_rfl) rfl) ao n cap zs w h nw nh w1 ((unhide HR).grown (unhide HG1)) hn (by have := unhide HC; show _ ∧ _; omega) ?_ L HL').mono ?_
    · intro wd ht nw' nh' hok hlen h1 h2 h0
      have hok' : _ ∧ _ := hok
      refine ⟨gridL_len _ _ _, ?_⟩
      exact grid_vals (fun y x _ _ => tone_getD h0 _)
    · rintro e w2 ⟨so, sc, rfl, o2, g2⟩
      have HO := hide (own_base o2 (unhide HG1).size)
      have HG2 := hide (grown_trans (unhide HG1) g2)
      clear o2 g2
      go_wp2
      go_ret
      exact ⟨_, _, rfl, unhide HO, unhide HG2⟩

set_option maxRecDepth 20000 in
set_option maxHeartbeats 1600000 in
theorem implShrink (ao : Option Addr) (n cap : Nat) (zs : List Int) (w h nw nh : Int) (W : World) (hr : Rd .i64 W ao n zs) (hn : n ≤ 9223372036854775807) (L : List Int) (HL : Hid (shrinkG zs w h nw nh = L)) :
    Calls Try.prog 14 #[.slice ao n cap, .int .i64 w, .int .i64 h, .int .i64 nw, .int .i64 nh] W fun e W' => ∃ so sc, e = .returned (.slice so L.length sc) ∧ W'.ownsRow W.heap.size 3 1 (.slice so L.length sc) L.length (L.map (Value.int .i64)) ∧ W.grownBy W' none := by
  obtain ⟨t, HT⟩ : ∃ t, Hid ((decide (nw ≤ w) && decide (nh ≤ h)) = t) := ⟨_, rfl⟩
  have HR := hide hr
  clear hr
  obtain ⟨W0, hW0⟩ : ∃ W0, (W.alloc (.cells #[.int .i64 w, .int .i64 h] 48)).alloc (.cells #[.int .i64 nw, .int .i64 nh] 48) = W0 := ⟨_, rfl⟩
  have HG0 : Hid (W.grownBy W0 none) := by rw [← hW0]; exact grown_alloc (World.grownBy_alloc _ _ _) _
  have b0 : Hid (W0.heap[W.heap.size]? = some (.cells #[.int .i64 w, .int .i64 h] 48 (0, 0))) := by rw [← hW0, Below.heap_alloc _ _ _ (by simp)]; exact heap_alloc_new W _
  have b1 : Hid (W0.heap[W.heap.size + 1]? = some (.cells #[.int .i64 nw, .int .i64 nh] 48 (0, 0))) := by
    rw [← hW0]
    have := heap_alloc_new (W.alloc (.cells #[.int .i64 w, .int .i64 h] 48)) (.cells #[.int .i64 nw, .int .i64 nh] 48)
    unfold Hid
    simpa using this
  have HW := hide hW0
  clear hW0
  go_enter Try.func14, Try.ntmps14
  go_wp2_with fail
  rw [unhide HW]
  refine (covers w h nw nh t HT W0).mono ?_
  rintro e w1 ⟨rfl, g1⟩
  have HG1 := hide (grown_trans (unhide HG0) g1)
  have q0 := grown_atG g1 (unhide b0) (by simp)
  have q1 := grown_atG g1 (unhide b1) (by simp)
  have k0 : w1.cell? ⟨W.heap.size, 0, none⟩ = some (.int .i64 w) := by rw [cell_of_row w1 _ 0 _ _ (0, 0) q0]; rfl
  have k1 : w1.cell? ⟨W.heap.size, 1, none⟩ = some (.int .i64 h) := by rw [cell_of_row w1 _ 1 _ _ (0, 0) q0]; rfl
  have k2 : w1.cell? ⟨W.heap.size + 1, 0, none⟩ = some (.int .i64 nw) := by rw [cell_of_row w1 _ 0 _ _ (0, 0) q1]; rfl
  have k3 : w1.cell? ⟨W.heap.size + 1, 1, none⟩ = some (.int .i64 nh) := by rw [cell_of_row w1 _ 1 _ _ (0, 0) q1]; rfl
  clear g1 q0 q1 b0 b1 HW
  cases t with
  | false =>
    obtain rfl : L = [] := by
      rw [← unhide HL, shrinkG]
      have h1 := unhide HT
      rw [if_neg]
      intro e
      simp only [Bool.and_eq_true, decide_eq_true_eq, Bool.and_eq_false_iff, decide_eq_false_iff_not] at e h1
      omega
    go_wp2
    go_ret
    exact ⟨none, 0, rfl, ⟨rfl, .inl ⟨rfl, rfl⟩⟩, unhide HG1⟩
  | true =>
    have hc := unhide HT
    simp only [Bool.and_eq_true, decide_eq_true_eq] at hc
    have HC := hide hc
    have HL' : Hid ((if planeB zs w h && sidesB nw nh then (fun L wd ht nw nh => shrinkL L wd ht nw nh) zs w.toNat h.toNat nw.toNat nh.toNat else []) = L) := by
      unfold Hid
      rw [← unhide HL, shrinkG]
      rw [down_sides (unhide HC).1 (unhide HC).2]
    clear hc
    go_wp2_with fail
    refine (remade 46 (fun wd ht nw nh => nw ≤ wd ∧ nh ≤ ht) (fun L wd ht nw nh => shrinkL L wd ht nw nh) shrunk (enters_of Try.func46 (by kernel_rfl) rfl) ao n cap zs w h nw nh w1 ((unhide HR).grown (unhide HG1)) hn (by have := unhide HC; show _ ∧ _; omega) ?_ L HL').mono ?_
    · intro wd ht nw' nh' hok hlen h1 h2 h0
      have hok' : _ ∧ _ := hok
      refine ⟨gridL_len _ _ _, ?_⟩
      exact grid_vals (fun y x hy hx => shrink_in hlen h1 h2 h0 hy hx)
    · rintro e w2 ⟨so, sc, rfl, o2, g2⟩
      have HO := hide (own_base o2 (unhide HG1).size)
      have HG2 := hide (grown_trans (unhide HG1) g2)
      clear o2 g2
      go_wp2
      go_ret
      exact ⟨_, _, rfl, unhide HO, unhide HG2⟩

set_option maxRecDepth 20000 in
set_option maxHeartbeats 1600000 in
theorem implGrow (ao : Option Addr) (n cap : Nat) (zs : List Int) (w h nw nh : Int) (W : World) (hr : Rd .i64 W ao n zs) (hn : n ≤ 9223372036854775807) (L : List Int) (HL : Hid (growG zs w h nw nh = L)) :
    Calls Try.prog 19 #[.slice ao n cap, .int .i64 w, .int .i64 h, .int .i64 nw, .int .i64 nh] W fun e W' => ∃ so sc, e = .returned (.slice so L.length sc) ∧ W'.ownsRow W.heap.size 3 1 (.slice so L.length sc) L.length (L.map (Value.int .i64)) ∧ W.grownBy W' none := by
  obtain ⟨t, HT⟩ : ∃ t, Hid ((decide (w ≤ nw) && decide (h ≤ nh)) = t) := ⟨_, rfl⟩
  have HR := hide hr
  clear hr
  obtain ⟨W0, hW0⟩ : ∃ W0, (W.alloc (.cells #[.int .i64 w, .int .i64 h] 48)).alloc (.cells #[.int .i64 nw, .int .i64 nh] 48) = W0 := ⟨_, rfl⟩
  have HG0 : Hid (W.grownBy W0 none) := by rw [← hW0]; exact grown_alloc (World.grownBy_alloc _ _ _) _
  have b0 : Hid (W0.heap[W.heap.size]? = some (.cells #[.int .i64 w, .int .i64 h] 48 (0, 0))) := by rw [← hW0, Below.heap_alloc _ _ _ (by simp)]; exact heap_alloc_new W _
  have b1 : Hid (W0.heap[W.heap.size + 1]? = some (.cells #[.int .i64 nw, .int .i64 nh] 48 (0, 0))) := by
    rw [← hW0]
    have := heap_alloc_new (W.alloc (.cells #[.int .i64 w, .int .i64 h] 48)) (.cells #[.int .i64 nw, .int .i64 nh] 48)
    unfold Hid
    simpa using this
  have HW := hide hW0
  clear hW0
  go_enter Try.func19, Try.ntmps19
  go_wp2_with fail
  rw [unhide HW]
  refine (covers nw nh w h t HT W0).mono ?_
  rintro e w1 ⟨rfl, g1⟩
  have HG1 := hide (grown_trans (unhide HG0) g1)
  have q0 := grown_atG g1 (unhide b0) (by simp)
  have q1 := grown_atG g1 (unhide b1) (by simp)
  have k0 : w1.cell? ⟨W.heap.size, 0, none⟩ = some (.int .i64 w) := by rw [cell_of_row w1 _ 0 _ _ (0, 0) q0]; rfl
  have k1 : w1.cell? ⟨W.heap.size, 1, none⟩ = some (.int .i64 h) := by rw [cell_of_row w1 _ 1 _ _ (0, 0) q0]; rfl
  have k2 : w1.cell? ⟨W.heap.size + 1, 0, none⟩ = some (.int .i64 nw) := by rw [cell_of_row w1 _ 0 _ _ (0, 0) q1]; rfl
  have k3 : w1.cell? ⟨W.heap.size + 1, 1, none⟩ = some (.int .i64 nh) := by rw [cell_of_row w1 _ 1 _ _ (0, 0) q1]; rfl
  clear g1 q0 q1 b0 b1 HW
  cases t with
  | false =>
    obtain rfl : L = [] := by
      rw [← unhide HL, growG]
      have h1 := unhide HT
      rw [if_neg]
      intro e
      simp only [Bool.and_eq_true, decide_eq_true_eq, Bool.and_eq_false_iff, decide_eq_false_iff_not] at e h1
      omega
    go_wp2
    go_ret
    exact ⟨none, 0, rfl, ⟨rfl, .inl ⟨rfl, rfl⟩⟩, unhide HG1⟩
  | true =>
    have hc := unhide HT
    simp only [Bool.and_eq_true, decide_eq_true_eq] at hc
    have HC := hide hc
    have HL' : Hid ((if planeB zs w h && sidesB nw nh then (fun L wd ht nw nh => growL L wd ht nw nh) zs w.toNat h.toNat nw.toNat nh.toNat else []) = L) := by
      unfold Hid
      rw [← unhide HL, growG]
      cases hp : planeB zs w h <;> cases hs : sidesB nw nh <;> simp [(unhide HC).1, (unhide HC).2]
    clear hc
    go_wp2_with fail
    refine (remade 51 (fun wd ht nw nh => wd ≤ nw ∧ ht ≤ nh) (fun L wd ht nw nh => growL L wd ht nw nh) grown (enters_of Try.func51 (by kernel_rfl) rfl) ao n cap zs w h nw nh w1 ((unhide HR).grown (unhide HG1)) hn (by have := unhide HC; show _ ∧ _; omega) ?_ L HL').mono ?_
    · intro wd ht nw' nh' hok hlen h1 h2 h0
      have hok' : _ ∧ _ := hok
      refine ⟨gridL_len _ _ _, ?_⟩
      exact grid_vals (fun y x _ _ => tone_getD h0 _)
    · rintro e w2 ⟨so, sc, rfl, o2, g2⟩
      have HO := hide (own_base o2 (unhide HG1).size)
      have HG2 := hide (grown_trans (unhide HG1) g2)
      clear o2 g2
      go_wp2
      go_ret
      exact ⟨_, _, rfl, unhide HO, unhide HG2⟩

set_option maxRecDepth 20000 in
set_option maxHeartbeats 1600000 in
theorem implPad (ao : Option Addr) (n cap : Nat) (zs : List Int) (w h nw nh : Int) (W : World) (hr : Rd .i64 W ao n zs) (hn : n ≤ 9223372036854775807) (L : List Int) (HL : Hid (padG zs w h nw nh = L)) :
    Calls Try.prog 27 #[.slice ao n cap, .int .i64 w, .int .i64 h, .int .i64 nw, .int .i64 nh] W fun e W' => ∃ so sc, e = .returned (.slice so L.length sc) ∧ W'.ownsRow W.heap.size 3 1 (.slice so L.length sc) L.length (L.map (Value.int .i64)) ∧ W.grownBy W' none := by
  obtain ⟨t, HT⟩ : ∃ t, Hid ((decide (w ≤ nw) && decide (h ≤ nh)) = t) := ⟨_, rfl⟩
  have HR := hide hr
  clear hr
  obtain ⟨W0, hW0⟩ : ∃ W0, (W.alloc (.cells #[.int .i64 w, .int .i64 h] 48)).alloc (.cells #[.int .i64 nw, .int .i64 nh] 48) = W0 := ⟨_, rfl⟩
  have HG0 : Hid (W.grownBy W0 none) := by rw [← hW0]; exact grown_alloc (World.grownBy_alloc _ _ _) _
  have b0 : Hid (W0.heap[W.heap.size]? = some (.cells #[.int .i64 w, .int .i64 h] 48 (0, 0))) := by rw [← hW0, Below.heap_alloc _ _ _ (by simp)]; exact heap_alloc_new W _
  have b1 : Hid (W0.heap[W.heap.size + 1]? = some (.cells #[.int .i64 nw, .int .i64 nh] 48 (0, 0))) := by
    rw [← hW0]
    have := heap_alloc_new (W.alloc (.cells #[.int .i64 w, .int .i64 h] 48)) (.cells #[.int .i64 nw, .int .i64 nh] 48)
    unfold Hid
    simpa using this
  have HW := hide hW0
  clear hW0
  go_enter Try.func27, Try.ntmps27
  go_wp2_with fail
  rw [unhide HW]
  refine (covers nw nh w h t HT W0).mono ?_
  rintro e w1 ⟨rfl, g1⟩
  have HG1 := hide (grown_trans (unhide HG0) g1)
  have q0 := grown_atG g1 (unhide b0) (by simp)
  have q1 := grown_atG g1 (unhide b1) (by simp)
  have k0 : w1.cell? ⟨W.heap.size, 0, none⟩ = some (.int .i64 w) := by rw [cell_of_row w1 _ 0 _ _ (0, 0) q0]; rfl
  have k1 : w1.cell? ⟨W.heap.size, 1, none⟩ = some (.int .i64 h) := by rw [cell_of_row w1 _ 1 _ _ (0, 0) q0]; rfl
  have k2 : w1.cell? ⟨W.heap.size + 1, 0, none⟩ = some (.int .i64 nw) := by rw [cell_of_row w1 _ 0 _ _ (0, 0) q1]; rfl
  have k3 : w1.cell? ⟨W.heap.size + 1, 1, none⟩ = some (.int .i64 nh) := by rw [cell_of_row w1 _ 1 _ _ (0, 0) q1]; rfl
  clear g1 q0 q1 b0 b1 HW
  cases t with
  | false =>
    obtain rfl : L = [] := by
      rw [← unhide HL, padG]
      have h1 := unhide HT
      rw [if_neg]
      intro e
      simp only [Bool.and_eq_true, decide_eq_true_eq, Bool.and_eq_false_iff, decide_eq_false_iff_not] at e h1
      omega
    go_wp2
    go_ret
    exact ⟨none, 0, rfl, ⟨rfl, .inl ⟨rfl, rfl⟩⟩, unhide HG1⟩
  | true =>
    have hc := unhide HT
    simp only [Bool.and_eq_true, decide_eq_true_eq] at hc
    have HC := hide hc
    have HL' : Hid ((if planeB zs w h && sidesB nw nh then (fun L wd ht nw nh => padL L wd ht nw nh) zs w.toNat h.toNat nw.toNat nh.toNat else []) = L) := by
      unfold Hid
      rw [← unhide HL, padG]
      cases hp : planeB zs w h <;> cases hs : sidesB nw nh <;> simp [(unhide HC).1, (unhide HC).2]
    clear hc
    go_wp2_with fail
    refine (remade 65 (fun wd ht nw nh => wd ≤ nw ∧ ht ≤ nh) (fun L wd ht nw nh => padL L wd ht nw nh) padded (enters_of Try.func65 (by kernel_rfl) rfl) ao n cap zs w h nw nh w1 ((unhide HR).grown (unhide HG1)) hn (by have := unhide HC; show _ ∧ _; omega) ?_ L HL').mono ?_
    · intro wd ht nw' nh' hok hlen h1 h2 h0
      have hok' : _ ∧ _ := hok
      refine ⟨gridL_len _ _ _, ?_⟩
      exact grid_vals (fun y x _ _ => tone_getD h0 _)
    · rintro e w2 ⟨so, sc, rfl, o2, g2⟩
      have HO := hide (own_base o2 (unhide HG1).size)
      have HG2 := hide (grown_trans (unhide HG1) g2)
      clear o2 g2
      go_wp2
      go_ret
      exact ⟨_, _, rfl, unhide HO, unhide HG2⟩

end Go.Proofs.Ytkefpjbdkhifhaa
