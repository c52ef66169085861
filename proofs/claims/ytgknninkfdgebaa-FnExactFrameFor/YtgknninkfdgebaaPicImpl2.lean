/-
  PictureOk in the program (written by gen_picimpl2.py).
-/
import Derived.Test.YtgknninkfdgebaaPicImpl
namespace Go.Proofs.Ytgknninkfdgebaa
open Go.RowKit

set_option maxRecDepth 20000 in
set_option maxHeartbeats 3200000 in
theorem implPictureOk8 (wd ht : Int) (xo : Option Addr) (xc : Nat) (X : List (List Int)) (w : World) (hr : Rd2 w (.slice xo X.length xc) X) (hs : szR lenI X ≤ 1048576) (t : Bool) (HT : Hid (picB 8 wd ht X = t)) :
    Calls Try.prog 16 #[.agg #[.int .i64 8, .int .i64 wd, .int .i64 ht, .slice xo X.length xc]] w fun e w' => e = .returned (.bool t) ∧ w.grownBy w' none := by
  obtain ⟨n, HN⟩ : ∃ n, Hid (X.length = n) := ⟨_, rfl⟩
  have hn : n ≤ 1048576 := by have := szR_len lenI X; rw [unhide HN] at this; omega
  have HS := hide hs
  have HR := hide hr
  clear hr hs
  rw [unhide HN] at HR ⊢
  obtain ⟨th, HH⟩ : ∃ t, Hid (headB 8 wd ht 0 = t) := ⟨_, rfl⟩
  obtain ⟨t3, H3⟩ : ∃ t, Hid (decide (1 ≤ (n : Int) ∧ (n : Int) ≤ 4) = t) := ⟨_, rfl⟩
  obtain ⟨m, HM⟩ : ∃ m, Hid (wd * ht = m) := ⟨_, rfl⟩
  have ht0 : (th && t3 && X.all (planeOkB 8 m)) = t := by
    rw [← unhide HT, picB, picHead, unhide HN, unhide HH, unhide H3, unhide HM]
  have HT2 := hide ht0
  clear ht0 HT
  go_enter Try.func16, Try.ntmps16
  go_wp2_with fail
  refine (implHead 8 wd ht xo n xc _).mono ?_
  rintro e w1 ⟨rfl, g1⟩
  have B1 := grown_at7 (grown_trans g1 (World.grownBy_alloc w1 (.cells #[.int .i64 0, .int .i64 0, .int .i64 0, .int .i64 0, .int .i64 0, .int .i64 0, .int .i64 0, .int .i64 0, .int .i64 0, .int .i64 0, .int .i64 0, .int .i64 0, .int .i64 0, .int .i64 0, .int .i64 0, .int .i64 0, .int .i64 0, .int .i64 0, .int .i64 0, .int .i64 0, .int .i64 0] 65) _)) (heap_alloc_new w (.cells #[.int .i64 8, .int .i64 wd, .int .i64 ht, .slice xo n xc] 33)) (by simp)
  have F1 := hide (heap_alloc_new w1 (.cells #[.int .i64 0, .int .i64 0, .int .i64 0, .int .i64 0, .int .i64 0, .int .i64 0, .int .i64 0, .int .i64 0, .int .i64 0, .int .i64 0, .int .i64 0, .int .i64 0, .int .i64 0, .int .i64 0, .int .i64 0, .int .i64 0, .int .i64 0, .int .i64 0, .int .i64 0, .int .i64 0, .int .i64 0] 65))
  have G1 := hide (grown_trans (World.grownBy_alloc w (.cells #[.int .i64 8, .int .i64 wd, .int .i64 ht, .slice xo n xc] 33) _) (grown_trans g1 (World.grownBy_alloc w1 (.cells #[.int .i64 0, .int .i64 0, .int .i64 0, .int .i64 0, .int .i64 0, .int .i64 0, .int .i64 0, .int .i64 0, .int .i64 0, .int .i64 0, .int .i64 0, .int .i64 0, .int .i64 0, .int .i64 0, .int .i64 0, .int .i64 0, .int .i64 0, .int .i64 0, .int .i64 0, .int .i64 0, .int .i64 0] 65) _)))
  have hsf : w.heap.size < w1.heap.size := by have := g1.size; simp at this; omega
  have HSF := hide hsf
  have HB1 := hide B1
  clear g1 B1 hsf
  go_wp2_with (first | (refine store_row rfl 65 _ _ rfl w1.heap.size rfl #[.int .i64 8, .int .i64 wd, .int .i64 ht, .int .i64 0, .int .i64 (n : Int), .int .i64 0, .int .i64 0, .int .i64 0, .int .i64 0, .int .i64 0, .int .i64 0, .int .i64 0, .int .i64 0, .int .i64 0, .int .i64 0, .int .i64 0, .int .i64 0, .int .i64 0, .int .i64 0, .int .i64 0, .int .i64 0] rfl #[.int .i64 0, .int .i64 0, .int .i64 0, .int .i64 0, .int .i64 0, .int .i64 0, .int .i64 0, .int .i64 0, .int .i64 0, .int .i64 0, .int .i64 0, .int .i64 0, .int .i64 0, .int .i64 0, .int .i64 0, .int .i64 0, .int .i64 0, .int .i64 0, .int .i64 0, .int .i64 0, .int .i64 0] 65 (unhide F1) rfl (by kernel_rfl) (by simp [Value.oneCell']) ?_; intro w2 hF2 g2; have HF2 := hide hF2; have HG2 := hide g2; clear hF2 g2) | (refine load_row rfl 65 _ rfl w1.heap.size rfl #[.int .i64 8, .int .i64 wd, .int .i64 ht, .int .i64 0, .int .i64 (n : Int), .int .i64 0, .int .i64 0, .int .i64 0, .int .i64 0, .int .i64 0, .int .i64 0, .int .i64 0, .int .i64 0, .int .i64 0, .int .i64 0, .int .i64 0, .int .i64 0, .int .i64 0, .int .i64 0, .int .i64 0, .int .i64 0] 65 (unhide HF2) _ Try.underlying65 rfl (by kernel_rfl) ?_))
  have B2 := hide (grown_at7 (unhide HG2) (unhide HB1) (by have := unhide HSF; simp; omega))
  have G2 := hide (grown_new (unhide G1) (unhide HG2) (fun g e => by simp at e; have := unhide HSF; omega))
  generalize hsz : w.heap.size = s at *
  generalize hfz : w1.heap.size = f at *
  have HSZ := hide hsz
  clear hsz hfz HG2 G1 HB1 F1
  refine (headOk _ 8 wd ht 0 n _ (head_fx 8 wd ht n) th HH w2).mono ?_
  rintro e w3 ⟨rfl, g3⟩
  have B3 := hide (grown_at7 g3 (unhide B2) (by simp))
  have F3 := hide (grown_at7 g3 (unhide HF2) (by simp))
  have G3 := hide (grown_trans (unhide G2) g3)
  clear g3 G2 HF2 B2
  cases th with
  | false =>
    obtain rfl : t = false := by have := unhide HT2; simpa using this.symm
    go_wp2
    go_ret
    exact ⟨rfl, unhide G3⟩
  | true =>
  have hh := headB_facts (unhide HH)
  have c4 := rowAt (unhide F3) 4 rfl
  go_wp2_with fail
  refine (inRange (n : Int) 1 4 t3 H3 w3).mono ?_
  rintro e w4 ⟨rfl, rfl⟩
  cases t3 with
  | false =>
    obtain rfl : t = false := by have := unhide HT2; simpa using this.symm
    go_wp2
    go_ret
    exact ⟨rfl, unhide G3⟩
  | true =>
  have hn4 : 1 ≤ (n : Int) ∧ (n : Int) ≤ 4 := of_decide_eq_true (unhide H3)
  have HTX : Hid (X.all (planeOkB 8 m) = t) := by unfold Hid; have := unhide HT2; simpa using this
  have HR0 := hide (st2 _ _ _ _ (unhide HR) (unhide G3))
  have d3 := rowAt (unhide B3) 3 rfl
  clear HT2 H3 HR HH c4
  have W0eq : ∃ W0, w3 = W0 := ⟨_, rfl⟩
  obtain ⟨W0, hW0⟩ := W0eq
  subst hW0
  go_wp2
  go_loopw [20] (fun i wr => ∃ k : Nat, k ≤ n ∧ i = .int .i64 k ∧ Hid (∀ j (hj : j < X.length), j < k → planeOkB 8 m X[j] = true) ∧ Hid (w3.grownBy wr none)) (fun i _ => n - (intOf i).toNat)
  case atStart => exact ⟨0, by omega, by go_num, fun j _ hj => absurd hj (by omega), World.grownBy.refl _ _⟩
  case round =>
    obtain ⟨k, hk, rfl, HK, HG⟩ := hrel
    have kk := hide (grown_at7 (unhide HG) (unhide B3) (by simp))
    have kf := hide (grown_at7 (unhide HG) (unhide F3) (by simp))
    clear d3
    by_cases hlt : k < n
    · have hkI : (k : Int) < (n : Int) := by omega
      have hkX : k < X.length := by have := unhide HN; omega
      have e9 := i64_in ((k : Int) + 1) (by omega)
      obtain ⟨b, off, u, rfl, cx, hu⟩ := rd2_at (st2 _ _ _ _ (unhide HR0) (unhide HG)) hkX
      obtain ⟨ro, rc, rfl, hrr⟩ := hu
      obtain ⟨L, HL⟩ : ∃ L, Hid (X[k] = L) := ⟨X[k], rfl⟩
      have hLs : lenI X[k] ≤ 1048576 := Nat.le_trans (szR_el lenI X k hkX).2 (unhide HS)
      have HRR := hide hrr
      rw [unhide HL] at HRR cx
      have hLl : L.length ≤ 1048576 := by rw [unhide HL] at hLs; exact hLs
      clear hrr hLs
      have kI : (0 : Int) ≤ (k : Int) := by omega
      obtain ⟨ln, HLN⟩ : ∃ ln, Hid (L.length = ln) := ⟨_, rfl⟩
      rw [unhide HLN] at HRR cx hLl
      obtain ⟨tb, HTB0⟩ : ∃ tb, Hid (planeOkB 8 m L = tb) := ⟨_, rfl⟩
      have HTB : Hid ((decide ((ln : Int) = m) && L.all fun z => decide (0 ≤ z ∧ z ≤ 255)) = tb) := by unfold Hid; rw [← unhide HTB0, planeOkB, unhide HLN]; rfl
      go_wp2
      clear cx
      refine wp_region_noPanic ?_
      refine wp_region_tailL 20 (fun W => W.heap[s]? = some (.cells #[.int .i64 8, .int .i64 wd, .int .i64 ht, .slice (some ⟨b, off, none⟩) n xc] 33 (0, 0)) ∧ W.heap[f]? = some (.cells #[.int .i64 8, .int .i64 wd, .int .i64 ht, .int .i64 0, .int .i64 (n : Int), .int .i64 0, .int .i64 0, .int .i64 0, .int .i64 0, .int .i64 0, .int .i64 0, .int .i64 0, .int .i64 0, .int .i64 0, .int .i64 0, .int .i64 0, .int .i64 0, .int .i64 0, .int .i64 0, .int .i64 0, .int .i64 0] 65 (0, 0))) [true, true, false, true, true, false, false, false, false] (by kernel_rfl) (fun _ _ _ _ _ h => h) rfl (by decide) (by kernel_rfl) ⟨unhide kk, unhide kf⟩ ?_
      have y0 : Hid (wr.drew.heap[s]? = _) := kk
      have y1 : Hid (wr.drew.heap[f]? = _) := kf
      have HRR : Hid (Rd .i64 wr.drew ro ln L) := unhide HRR
      have HG : Hid (w3.grownBy wr.drew none) := grown_drew (unhide HG)
      clear kk kf
      generalize wr.drew = W1 at *
      refine heldF_take (v := ?_) (Or.inl ⟨by rfl, ?_⟩) ?_
      rotate_left 1
      · intro w' hSw
        go_simp
        try with_reducible rfl
      try simp only [Act.put, List.setIfInBounds_toArray, List.set_cons_zero, List.set_cons_succ]
      refine heldF_take (v := ?_) (Or.inl ⟨by rfl, ?_⟩) ?_
      rotate_left 1
      · intro w' hSw
        have cc := rowAt hSw.2 0 rfl
        go_simp
        try with_reducible rfl
      try simp only [Act.put, List.setIfInBounds_toArray, List.set_cons_zero, List.set_cons_succ]
      refine heldF_skip ?_
      refine heldF_take (v := ?_) (Or.inl ⟨by rfl, ?_⟩) ?_
      rotate_left 1
      · intro w' hSw
        go_simp
        try with_reducible rfl
      try simp only [Act.put, List.setIfInBounds_toArray, List.set_cons_zero, List.set_cons_succ]
      refine heldF_take (v := .agg #[.int .i64 8, .int .i64 wd, .int .i64 ht, .int .i64 0, .int .i64 (n : Int), .int .i64 0, .int .i64 0, .int .i64 0, .int .i64 0, .int .i64 0, .int .i64 0, .int .i64 0, .int .i64 0, .int .i64 0, .int .i64 0, .int .i64 0, .int .i64 0, .int .i64 0, .int .i64 0, .int .i64 0, .int .i64 0]) (Or.inl ⟨by rfl, ?_⟩) ?_
      · intro w' hSw
        exact exec_row 65 _ rfl f rfl _ _ hSw.2 _ Try.underlying65 rfl (by kernel_rfl)
      try simp only [Act.put, List.setIfInBounds_toArray, List.set_cons_zero, List.set_cons_succ]
      refine heldF_skip ?_
      refine heldF_skip ?_
      refine heldF_skip ?_
      refine heldF_skip ?_
      refine heldF_nil ?_
      refine tailL_skip ?_
      refine tailL_skip ?_
      refine tailL_step (fun K hK => ?_)
      go_simp
      refine (implDepth8 W1).mono ?_
      rintro e W2 ⟨rfl, g2⟩
      have y0 := hide (grown_at7 g2 (unhide y0) (by simp))
      have y1 := hide (grown_at7 g2 (unhide y1) (by simp))
      refine hK.out _ _ (.inr ⟨unhide y0, unhide y1⟩) ?_
      clear hK K
      try simp only [Act.put, List.setIfInBounds_toArray, List.set_cons_zero, List.set_cons_succ]
      refine tailL_skip ?_
      refine tailL_skip ?_
      refine tailL_step (fun K hK => ?_)
      go_simp
      refine (implWhole 8 wd ht n W2).mono ?_
      rintro e W3 ⟨rfl, g3⟩
      have y0 := hide (grown_at7 g3 (unhide y0) (by simp))
      have y1 := hide (grown_at7 g3 (unhide y1) (by simp))
      refine hK.out _ _ (.inr ⟨unhide y0, unhide y1⟩) ?_
      clear hK K
      try simp only [Act.put, List.setIfInBounds_toArray, List.set_cons_zero, List.set_cons_succ]
      refine tailL_step (fun K hK => ?_)
      go_simp
      refine (areaCount wd ht (by omega) (by omega) W3).mono ?_
      rintro e W4 ⟨rfl, g4⟩
      rw [unhide HM]
      have y0 := hide (grown_at7 g4 (unhide y0) (by simp))
      have y1 := hide (grown_at7 g4 (unhide y1) (by simp))
      refine hK.out _ _ (.inr ⟨unhide y0, unhide y1⟩) ?_
      clear hK K
      try simp only [Act.put, List.setIfInBounds_toArray, List.set_cons_zero, List.set_cons_succ]
      refine tailL_step (fun K hK => ?_)
      go_simp
      refine (implHolds 128 255 (by omega) ro ln rc L m W4 ((unhide HRR).grown (grown_trans (grown_trans g2 g3) g4)) hLl tb HTB).mono ?_
      rintro e W5 ⟨rfl, g5⟩
      have y0 := hide (grown_at7 g5 (unhide y0) (by simp))
      have y1 := hide (grown_at7 g5 (unhide y1) (by simp))
      have HG5 := hide (grown_trans (unhide HG) (grown_trans (grown_trans (grown_trans g2 g3) g4) g5))
      clear g2 g3 g4 g5
      refine hK.out _ _ (.inr ⟨unhide y0, unhide y1⟩) ?_
      clear hK K
      try simp only [Act.put, List.setIfInBounds_toArray, List.set_cons_zero, List.set_cons_succ]
      refine tailL_step (fun K hK => ?_)
      go_simp
      refine hK.out _ _ (.inl rfl) ?_
      clear hK K
      refine tailL_nil (NoPanic.normal ?_)
      try simp only [Act.put]
      cases tb with
      | false =>
        obtain rfl : t = false := by
          rw [← unhide HTX]
          exact all_no hkX (by rw [unhide HL]; exact unhide HTB0)
        have HGR := hide (grown_trans (unhide G3) (unhide HG5))
        go_wp2
        go_ret
        exact ⟨rfl, unhide HGR⟩
      | true =>
        have HK' : Hid (∀ j (hj : j < X.length), j < k + 1 → planeOkB 8 m X[j] = true) := fun j hj hjk => by
          by_cases e : j = k
          · subst e; rw [unhide HL]; exact unhide HTB0
          · exact unhide HK j hj (by omega)
        go_wp2
        go_roundw
        case rel => exact ⟨k + 1, by omega, by go_num, HK', HG5⟩
        case measure => simp [intOf]; omega
    · obtain rfl : k = n := by omega
      obtain rfl : t = true := by rw [← unhide HTX]; exact all_yes (fun i hi => unhide HK i hi (by have := unhide HN; omega))
      have HGR := hide (grown_trans (unhide G3) (unhide HG))
      go_wp2
      go_ret
      exact ⟨rfl, unhide HGR⟩

set_option maxRecDepth 20000 in
set_option maxHeartbeats 3200000 in
theorem implPictureOk12 (wd ht : Int) (xo : Option Addr) (xc : Nat) (X : List (List Int)) (w : World) (hr : Rd2 w (.slice xo X.length xc) X) (hs : szR lenI X ≤ 1048576) (t : Bool) (HT : Hid (picB 12 wd ht X = t)) :
    Calls Try.prog 16 #[.agg #[.int .i64 12, .int .i64 wd, .int .i64 ht, .slice xo X.length xc]] w fun e w' => e = .returned (.bool t) ∧ w.grownBy w' none := by
  obtain ⟨n, HN⟩ : ∃ n, Hid (X.length = n) := ⟨_, rfl⟩
  have hn : n ≤ 1048576 := by have := szR_len lenI X; rw [unhide HN] at this; omega
  have HS := hide hs
  have HR := hide hr
  clear hr hs
  rw [unhide HN] at HR ⊢
  obtain ⟨th, HH⟩ : ∃ t, Hid (headB 12 wd ht 0 = t) := ⟨_, rfl⟩
  obtain ⟨t3, H3⟩ : ∃ t, Hid (decide (1 ≤ (n : Int) ∧ (n : Int) ≤ 4) = t) := ⟨_, rfl⟩
  obtain ⟨m, HM⟩ : ∃ m, Hid (wd * ht = m) := ⟨_, rfl⟩
  have ht0 : (th && t3 && X.all (planeOkB 12 m)) = t := by
    rw [← unhide HT, picB, picHead, unhide HN, unhide HH, unhide H3, unhide HM]
  have HT2 := hide ht0
  clear ht0 HT
  go_enter Try.func16, Try.ntmps16
  go_wp2_with fail
  refine (implHead 12 wd ht xo n xc _).mono ?_
  rintro e w1 ⟨rfl, g1⟩
  have B1 := grown_at7 (grown_trans g1 (World.grownBy_alloc w1 (.cells #[.int .i64 0, .int .i64 0, .int .i64 0, .int .i64 0, .int .i64 0, .int .i64 0, .int .i64 0, .int .i64 0, .int .i64 0, .int .i64 0, .int .i64 0, .int .i64 0, .int .i64 0, .int .i64 0, .int .i64 0, .int .i64 0, .int .i64 0, .int .i64 0, .int .i64 0, .int .i64 0, .int .i64 0] 65) _)) (heap_alloc_new w (.cells #[.int .i64 12, .int .i64 wd, .int .i64 ht, .slice xo n xc] 33)) (by simp)
  have F1 := hide (heap_alloc_new w1 (.cells #[.int .i64 0, .int .i64 0, .int .i64 0, .int .i64 0, .int .i64 0, .int .i64 0, .int .i64 0, .int .i64 0, .int .i64 0, .int .i64 0, .int .i64 0, .int .i64 0, .int .i64 0, .int .i64 0, .int .i64 0, .int .i64 0, .int .i64 0, .int .i64 0, .int .i64 0, .int .i64 0, .int .i64 0] 65))
  have G1 := hide (grown_trans (World.grownBy_alloc w (.cells #[.int .i64 12, .int .i64 wd, .int .i64 ht, .slice xo n xc] 33) _) (grown_trans g1 (World.grownBy_alloc w1 (.cells #[.int .i64 0, .int .i64 0, .int .i64 0, .int .i64 0, .int .i64 0, .int .i64 0, .int .i64 0, .int .i64 0, .int .i64 0, .int .i64 0, .int .i64 0, .int .i64 0, .int .i64 0, .int .i64 0, .int .i64 0, .int .i64 0, .int .i64 0, .int .i64 0, .int .i64 0, .int .i64 0, .int .i64 0] 65) _)))
  have hsf : w.heap.size < w1.heap.size := by have := g1.size; simp at this; omega
  have HSF := hide hsf
  have HB1 := hide B1
  clear g1 B1 hsf
  go_wp2_with (first | (refine store_row rfl 65 _ _ rfl w1.heap.size rfl #[.int .i64 12, .int .i64 wd, .int .i64 ht, .int .i64 0, .int .i64 (n : Int), .int .i64 0, .int .i64 0, .int .i64 0, .int .i64 0, .int .i64 0, .int .i64 0, .int .i64 0, .int .i64 0, .int .i64 0, .int .i64 0, .int .i64 0, .int .i64 0, .int .i64 0, .int .i64 0, .int .i64 0, .int .i64 0] rfl #[.int .i64 0, .int .i64 0, .int .i64 0, .int .i64 0, .int .i64 0, .int .i64 0, .int .i64 0, .int .i64 0, .int .i64 0, .int .i64 0, .int .i64 0, .int .i64 0, .int .i64 0, .int .i64 0, .int .i64 0, .int .i64 0, .int .i64 0, .int .i64 0, .int .i64 0, .int .i64 0, .int .i64 0] 65 (unhide F1) rfl (by kernel_rfl) (by simp [Value.oneCell']) ?_; intro w2 hF2 g2; have HF2 := hide hF2; have HG2 := hide g2; clear hF2 g2) | (refine load_row rfl 65 _ rfl w1.heap.size rfl #[.int .i64 12, .int .i64 wd, .int .i64 ht, .int .i64 0, .int .i64 (n : Int), .int .i64 0, .int .i64 0, .int .i64 0, .int .i64 0, .int .i64 0, .int .i64 0, .int .i64 0, .int .i64 0, .int .i64 0, .int .i64 0, .int .i64 0, .int .i64 0, .int .i64 0, .int .i64 0, .int .i64 0, .int .i64 0] 65 (unhide HF2) _ Try.underlying65 rfl (by kernel_rfl) ?_))
  have B2 := hide (grown_at7 (unhide HG2) (unhide HB1) (by have := unhide HSF; simp; omega))
  have G2 := hide (grown_new (unhide G1) (unhide HG2) (fun g e => by simp at e; have := unhide HSF; omega))
  generalize hsz : w.heap.size = s at *
  generalize hfz : w1.heap.size = f at *
  have HSZ := hide hsz
  clear hsz hfz HG2 G1 HB1 F1
  refine (headOk _ 12 wd ht 0 n _ (head_fx 12 wd ht n) th HH w2).mono ?_
  rintro e w3 ⟨rfl, g3⟩
  have B3 := hide (grown_at7 g3 (unhide B2) (by simp))
  have F3 := hide (grown_at7 g3 (unhide HF2) (by simp))
  have G3 := hide (grown_trans (unhide G2) g3)
  clear g3 G2 HF2 B2
  cases th with
  | false =>
    obtain rfl : t = false := by have := unhide HT2; simpa using this.symm
    go_wp2
    go_ret
    exact ⟨rfl, unhide G3⟩
  | true =>
  have hh := headB_facts (unhide HH)
  have c4 := rowAt (unhide F3) 4 rfl
  go_wp2_with fail
  refine (inRange (n : Int) 1 4 t3 H3 w3).mono ?_
  rintro e w4 ⟨rfl, rfl⟩
  cases t3 with
  | false =>
    obtain rfl : t = false := by have := unhide HT2; simpa using this.symm
    go_wp2
    go_ret
    exact ⟨rfl, unhide G3⟩
  | true =>
  have hn4 : 1 ≤ (n : Int) ∧ (n : Int) ≤ 4 := of_decide_eq_true (unhide H3)
  have HTX : Hid (X.all (planeOkB 12 m) = t) := by unfold Hid; have := unhide HT2; simpa using this
  have HR0 := hide (st2 _ _ _ _ (unhide HR) (unhide G3))
  have d3 := rowAt (unhide B3) 3 rfl
  clear HT2 H3 HR HH c4
  have W0eq : ∃ W0, w3 = W0 := ⟨_, rfl⟩
  obtain ⟨W0, hW0⟩ := W0eq
  subst hW0
  go_wp2
  go_loopw [20] (fun i wr => ∃ k : Nat, k ≤ n ∧ i = .int .i64 k ∧ Hid (∀ j (hj : j < X.length), j < k → planeOkB 12 m X[j] = true) ∧ Hid (w3.grownBy wr none)) (fun i _ => n - (intOf i).toNat)
  case atStart => exact ⟨0, by omega, by go_num, fun j _ hj => absurd hj (by omega), World.grownBy.refl _ _⟩
  case round =>
    obtain ⟨k, hk, rfl, HK, HG⟩ := hrel
    have kk := hide (grown_at7 (unhide HG) (unhide B3) (by simp))
    have kf := hide (grown_at7 (unhide HG) (unhide F3) (by simp))
    clear d3
    by_cases hlt : k < n
    · have hkI : (k : Int) < (n : Int) := by omega
      have hkX : k < X.length := by have := unhide HN; omega
      have e9 := i64_in ((k : Int) + 1) (by omega)
      obtain ⟨b, off, u, rfl, cx, hu⟩ := rd2_at (st2 _ _ _ _ (unhide HR0) (unhide HG)) hkX
      obtain ⟨ro, rc, rfl, hrr⟩ := hu
      obtain ⟨L, HL⟩ : ∃ L, Hid (X[k] = L) := ⟨X[k], rfl⟩
      have hLs : lenI X[k] ≤ 1048576 := Nat.le_trans (szR_el lenI X k hkX).2 (unhide HS)
      have HRR := hide hrr
      rw [unhide HL] at HRR cx
      have hLl : L.length ≤ 1048576 := by rw [unhide HL] at hLs; exact hLs
      clear hrr hLs
      have kI : (0 : Int) ≤ (k : Int) := by omega
      obtain ⟨ln, HLN⟩ : ∃ ln, Hid (L.length = ln) := ⟨_, rfl⟩
      rw [unhide HLN] at HRR cx hLl
      obtain ⟨tb, HTB0⟩ : ∃ tb, Hid (planeOkB 12 m L = tb) := ⟨_, rfl⟩
      have HTB : Hid ((decide ((ln : Int) = m) && L.all fun z => decide (0 ≤ z ∧ z ≤ 4095)) = tb) := by unfold Hid; rw [← unhide HTB0, planeOkB, unhide HLN]; rfl
      go_wp2
      clear cx
      refine wp_region_noPanic ?_
      refine wp_region_tailL 20 (fun W => W.heap[s]? = some (.cells #[.int .i64 12, .int .i64 wd, .int .i64 ht, .slice (some ⟨b, off, none⟩) n xc] 33 (0, 0)) ∧ W.heap[f]? = some (.cells #[.int .i64 12, .int .i64 wd, .int .i64 ht, .int .i64 0, .int .i64 (n : Int), .int .i64 0, .int .i64 0, .int .i64 0, .int .i64 0, .int .i64 0, .int .i64 0, .int .i64 0, .int .i64 0, .int .i64 0, .int .i64 0, .int .i64 0, .int .i64 0, .int .i64 0, .int .i64 0, .int .i64 0, .int .i64 0] 65 (0, 0))) [true, true, false, true, true, false, false, false, false] (by kernel_rfl) (fun _ _ _ _ _ h => h) rfl (by decide) (by kernel_rfl) ⟨unhide kk, unhide kf⟩ ?_
      have y0 : Hid (wr.drew.heap[s]? = _) := kk
      have y1 : Hid (wr.drew.heap[f]? = _) := kf
      have HRR : Hid (Rd .i64 wr.drew ro ln L) := unhide HRR
      have HG : Hid (w3.grownBy wr.drew none) := grown_drew (unhide HG)
      clear kk kf
      generalize wr.drew = W1 at *
      refine heldF_take (v := ?_) (Or.inl ⟨by rfl, ?_⟩) ?_
      rotate_left 1
      · intro w' hSw
        go_simp
        try with_reducible rfl
      try simp only [Act.put, List.setIfInBounds_toArray, List.set_cons_zero, List.set_cons_succ]
      refine heldF_take (v := ?_) (Or.inl ⟨by rfl, ?_⟩) ?_
      rotate_left 1
      · intro w' hSw
        have cc := rowAt hSw.2 0 rfl
        go_simp
        try with_reducible rfl
      try simp only [Act.put, List.setIfInBounds_toArray, List.set_cons_zero, List.set_cons_succ]
      refine heldF_skip ?_
      refine heldF_take (v := ?_) (Or.inl ⟨by rfl, ?_⟩) ?_
      rotate_left 1
      · intro w' hSw
        go_simp
        try with_reducible rfl
      try simp only [Act.put, List.setIfInBounds_toArray, List.set_cons_zero, List.set_cons_succ]
      refine heldF_take (v := .agg #[.int .i64 12, .int .i64 wd, .int .i64 ht, .int .i64 0, .int .i64 (n : Int), .int .i64 0, .int .i64 0, .int .i64 0, .int .i64 0, .int .i64 0, .int .i64 0, .int .i64 0, .int .i64 0, .int .i64 0, .int .i64 0, .int .i64 0, .int .i64 0, .int .i64 0, .int .i64 0, .int .i64 0, .int .i64 0]) (Or.inl ⟨by rfl, ?_⟩) ?_
      · intro w' hSw
        exact exec_row 65 _ rfl f rfl _ _ hSw.2 _ Try.underlying65 rfl (by kernel_rfl)
      try simp only [Act.put, List.setIfInBounds_toArray, List.set_cons_zero, List.set_cons_succ]
      refine heldF_skip ?_
      refine heldF_skip ?_
      refine heldF_skip ?_
      refine heldF_skip ?_
      refine heldF_nil ?_
      refine tailL_skip ?_
      refine tailL_skip ?_
      refine tailL_step (fun K hK => ?_)
      go_simp
      refine (implDepth12 W1).mono ?_
      rintro e W2 ⟨rfl, g2⟩
      have y0 := hide (grown_at7 g2 (unhide y0) (by simp))
      have y1 := hide (grown_at7 g2 (unhide y1) (by simp))
      refine hK.out _ _ (.inr ⟨unhide y0, unhide y1⟩) ?_
      clear hK K
      try simp only [Act.put, List.setIfInBounds_toArray, List.set_cons_zero, List.set_cons_succ]
      refine tailL_skip ?_
      refine tailL_skip ?_
      refine tailL_step (fun K hK => ?_)
      go_simp
      refine (implWhole 12 wd ht n W2).mono ?_
      rintro e W3 ⟨rfl, g3⟩
      have y0 := hide (grown_at7 g3 (unhide y0) (by simp))
      have y1 := hide (grown_at7 g3 (unhide y1) (by simp))
      refine hK.out _ _ (.inr ⟨unhide y0, unhide y1⟩) ?_
      clear hK K
      try simp only [Act.put, List.setIfInBounds_toArray, List.set_cons_zero, List.set_cons_succ]
      refine tailL_step (fun K hK => ?_)
      go_simp
      refine (areaCount wd ht (by omega) (by omega) W3).mono ?_
      rintro e W4 ⟨rfl, g4⟩
      rw [unhide HM]
      have y0 := hide (grown_at7 g4 (unhide y0) (by simp))
      have y1 := hide (grown_at7 g4 (unhide y1) (by simp))
      refine hK.out _ _ (.inr ⟨unhide y0, unhide y1⟩) ?_
      clear hK K
      try simp only [Act.put, List.setIfInBounds_toArray, List.set_cons_zero, List.set_cons_succ]
      refine tailL_step (fun K hK => ?_)
      go_simp
      refine (implHolds 2048 4095 (by omega) ro ln rc L m W4 ((unhide HRR).grown (grown_trans (grown_trans g2 g3) g4)) hLl tb HTB).mono ?_
      rintro e W5 ⟨rfl, g5⟩
      have y0 := hide (grown_at7 g5 (unhide y0) (by simp))
      have y1 := hide (grown_at7 g5 (unhide y1) (by simp))
      have HG5 := hide (grown_trans (unhide HG) (grown_trans (grown_trans (grown_trans g2 g3) g4) g5))
      clear g2 g3 g4 g5
      refine hK.out _ _ (.inr ⟨unhide y0, unhide y1⟩) ?_
      clear hK K
      try simp only [Act.put, List.setIfInBounds_toArray, List.set_cons_zero, List.set_cons_succ]
      refine tailL_step (fun K hK => ?_)
      go_simp
      refine hK.out _ _ (.inl rfl) ?_
      clear hK K
      refine tailL_nil (NoPanic.normal ?_)
      try simp only [Act.put]
      cases tb with
      | false =>
        obtain rfl : t = false := by
          rw [← unhide HTX]
          exact all_no hkX (by rw [unhide HL]; exact unhide HTB0)
        have HGR := hide (grown_trans (unhide G3) (unhide HG5))
        go_wp2
        go_ret
        exact ⟨rfl, unhide HGR⟩
      | true =>
        have HK' : Hid (∀ j (hj : j < X.length), j < k + 1 → planeOkB 12 m X[j] = true) := fun j hj hjk => by
          by_cases e : j = k
          · subst e; rw [unhide HL]; exact unhide HTB0
          · exact unhide HK j hj (by omega)
        go_wp2
        go_roundw
        case rel => exact ⟨k + 1, by omega, by go_num, HK', HG5⟩
        case measure => simp [intOf]; omega
    · obtain rfl : k = n := by omega
      obtain rfl : t = true := by rw [← unhide HTX]; exact all_yes (fun i hi => unhide HK i hi (by have := unhide HN; omega))
      have HGR := hide (grown_trans (unhide G3) (unhide HG))
      go_wp2
      go_ret
      exact ⟨rfl, unhide HGR⟩

set_option maxRecDepth 20000 in
set_option maxHeartbeats 1600000 in
theorem implPictureOkNo (p wd ht : Int) (h8 : ¬ p = 8) (h12 : ¬ p = 12) (xo : Option Addr) (n xc : Nat) (w : World) :
    Calls Try.prog 16 #[.agg #[.int .i64 p, .int .i64 wd, .int .i64 ht, .slice xo n xc]] w fun e w' => e = .returned (.bool false) ∧ w.grownBy w' none := by
  have HH : Hid (headB p wd ht 0 = false) := by
    unfold Hid headB
    have e1 : (p == 8) = false := by simpa using h8
    have e2 : (p == 12) = false := by simpa using h12
    rw [e1, e2]; rfl
  clear h8 h12
  go_enter Try.func16, Try.ntmps16
  go_wp2_with fail
  refine (implHead p wd ht xo n xc _).mono ?_
  rintro e w1 ⟨rfl, g1⟩
  have F1 := hide (heap_alloc_new w1 (.cells #[.int .i64 0, .int .i64 0, .int .i64 0, .int .i64 0, .int .i64 0, .int .i64 0, .int .i64 0, .int .i64 0, .int .i64 0, .int .i64 0, .int .i64 0, .int .i64 0, .int .i64 0, .int .i64 0, .int .i64 0, .int .i64 0, .int .i64 0, .int .i64 0, .int .i64 0, .int .i64 0, .int .i64 0] 65))
  have G1 := hide (grown_trans (World.grownBy_alloc w (.cells #[.int .i64 p, .int .i64 wd, .int .i64 ht, .slice xo n xc] 33) _) (grown_trans g1 (World.grownBy_alloc w1 (.cells #[.int .i64 0, .int .i64 0, .int .i64 0, .int .i64 0, .int .i64 0, .int .i64 0, .int .i64 0, .int .i64 0, .int .i64 0, .int .i64 0, .int .i64 0, .int .i64 0, .int .i64 0, .int .i64 0, .int .i64 0, .int .i64 0, .int .i64 0, .int .i64 0, .int .i64 0, .int .i64 0, .int .i64 0] 65) _)))
  have HSF : Hid (w.heap.size < w1.heap.size) := by have := g1.size; unfold Hid; simp at this; omega
  clear g1
  go_wp2_with (first | (refine store_row rfl 65 _ _ rfl w1.heap.size rfl #[.int .i64 p, .int .i64 wd, .int .i64 ht, .int .i64 0, .int .i64 (n : Int), .int .i64 0, .int .i64 0, .int .i64 0, .int .i64 0, .int .i64 0, .int .i64 0, .int .i64 0, .int .i64 0, .int .i64 0, .int .i64 0, .int .i64 0, .int .i64 0, .int .i64 0, .int .i64 0, .int .i64 0, .int .i64 0] rfl #[.int .i64 0, .int .i64 0, .int .i64 0, .int .i64 0, .int .i64 0, .int .i64 0, .int .i64 0, .int .i64 0, .int .i64 0, .int .i64 0, .int .i64 0, .int .i64 0, .int .i64 0, .int .i64 0, .int .i64 0, .int .i64 0, .int .i64 0, .int .i64 0, .int .i64 0, .int .i64 0, .int .i64 0] 65 (unhide F1) rfl (by kernel_rfl) (by simp [Value.oneCell']) ?_; intro w2 hF2 g2; have HF2 := hide hF2; have HG2 := hide g2; clear hF2 g2) | (refine load_row rfl 65 _ rfl w1.heap.size rfl #[.int .i64 p, .int .i64 wd, .int .i64 ht, .int .i64 0, .int .i64 (n : Int), .int .i64 0, .int .i64 0, .int .i64 0, .int .i64 0, .int .i64 0, .int .i64 0, .int .i64 0, .int .i64 0, .int .i64 0, .int .i64 0, .int .i64 0, .int .i64 0, .int .i64 0, .int .i64 0, .int .i64 0, .int .i64 0] 65 (unhide HF2) _ Try.underlying65 rfl (by kernel_rfl) ?_))
  have G2 := hide (grown_new (unhide G1) (unhide HG2) (fun g e => by simp at e; have := unhide HSF; omega))
  refine (headOk _ p wd ht 0 n _ (head_fx p wd ht n) false HH w2).mono ?_
  rintro e w3 ⟨rfl, g3⟩
  have G3 := hide (grown_trans (unhide G2) g3)
  clear g3 G2 HF2 HG2 G1
  go_wp2
  go_ret
  exact ⟨rfl, unhide G3⟩

theorem implPictureOk (a : Pic) (u : Value) (w : World) (hr : RdPi w u a) (hs : szPi a ≤ 1048576) (t : Bool) (HT : Hid (picB a.p a.wd a.ht a.X = t)) :
    Calls Try.prog 16 #[u] w fun e w' => e = .returned (.bool t) ∧ w.grownBy w' none := by
  obtain ⟨p, wd, ht, X⟩ := a
  obtain ⟨v, rfl, hv⟩ := hr
  dsimp only at HT hv ⊢
  obtain ⟨xo, xc, rfl, _⟩ := id hv
  by_cases h8 : p = 8
  · subst h8; exact implPictureOk8 wd ht xo xc X w hv hs t HT
  by_cases h12 : p = 12
  · subst h12; exact implPictureOk12 wd ht xo xc X w hv hs t HT
  obtain rfl : t = false := by rw [← unhide HT]; exact picB_no h8 h12
  exact implPictureOkNo p wd ht h8 h12 xo _ xc w

end Go.Proofs.Ytgknninkfdgebaa
