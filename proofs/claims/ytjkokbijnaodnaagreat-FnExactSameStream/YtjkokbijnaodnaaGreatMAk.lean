/-
  SameImpl, SameSpec, StreamSz, LawSameStream.
-/
import Derived.Lib.Bytes
import Derived.Test.YtjkokbijnaodnaaGreatMAj

namespace Go.Proofs.YtjkokbijnaodnaaGreat
open Go.RowKit

theorem bytes_inj {xs ys : List Int} (hx : ∀ x ∈ xs, 0 ≤ x ∧ x < 256) (hy : ∀ x ∈ ys, 0 ≤ x ∧ x < 256) : (Lib.bytesOf xs == Lib.bytesOf ys) = decide (xs = ys) := by
  have key : ∀ (xs ys : List Int), (∀ x ∈ xs, 0 ≤ x ∧ x < 256) → (∀ x ∈ ys, 0 ≤ x ∧ x < 256) → Lib.bytesOf xs = Lib.bytesOf ys → xs = ys := by
    intro xs
    induction xs with
    | nil => intro ys _ _ h; cases ys with
      | nil => rfl
      | cons y ys => simp [Lib.bytesOf] at h
    | cons x xs ih =>
      intro ys hx hy h
      cases ys with
      | nil => simp [Lib.bytesOf] at h
      | cons y ys =>
        simp only [Lib.bytesOf, List.map_cons, List.cons.injEq] at h
        have h1 := hx x (by simp)
        have h2 := hy y (by simp)
        have h3 := congrArg UInt8.toNat h.1
        rw [UInt8.toNat_ofNat', UInt8.toNat_ofNat'] at h3
        have e : x = y := by omega
        rw [e, ih ys (fun a ha => hx a (by simp [ha])) (fun a ha => hy a (by simp [ha])) h.2]
  rw [Bool.eq_iff_iff, beq_iff_eq, decide_eq_true_iff]
  exact ⟨key xs ys hx hy, fun h => by rw [h]⟩
theorem convert_u8 {w : World} {ao : Option Addr} {n c : Nat} {xs : List Int} (h : Rd .u8 w ao n xs) : (convert 30 9 (.slice ao n c)).run Tryz.prog w = .ok (.string (strOfNums xs)) w := by
  cases ao with
  | none =>
    have hn : n = 0 := by
      rcases Nat.eq_zero_or_pos n with h0 | h0
      · exact h0
      · obtain ⟨b, o, e, _⟩ := h.2 0 h0; cases e
    have : xs = [] := List.length_eq_zero_iff.1 (by have := h.1; omega)
    subst this
    exact run_convert_bytes_nil w 30 5 Tryz.underlying30 Tryz.underlying5 n c _ Tryz.underlying9
  | some a =>
    by_cases hn : n = 0
    · subst hn
      have : xs = [] := List.length_eq_zero_iff.1 h.1
      subst this
      obtain ⟨b, o, s⟩ := a
      rw [run_convert_bytes_string w _ _ 5 _ 0 c Tryz.underlying30 Tryz.underlying5 Tryz.underlying9, run_bytesToString w _ 0 c [] (by simp [loadCells, loadCellsFrom, Sem.run_pure])]
      rfl
    · obtain ⟨b, o, e, _⟩ := h.2 0 (by omega)
      cases e
      exact run_convert_bytes_arg w 30 5 Tryz.underlying30 Tryz.underlying5 b o n c xs h.1 (fun i hi => by obtain ⟨b', o', e', hc⟩ := h.2 i hi; cases e'; exact hc) _ Tryz.underlying9
set_option maxHeartbeats 1000000 in
theorem implBytes19 (ao : Option Addr) (n ca : Nat) (xs : List Int) (bo : Option Addr) (m cb : Nat) (ys : List Int) (w : World) (ha : Rd .u8 w ao n xs) (hb : Rd .u8 w bo m ys) (hx : ∀ x ∈ xs, 0 ≤ x ∧ x < 256) (hy : ∀ x ∈ ys, 0 ≤ x ∧ x < 256) (t : Bool) (HT : Hid (decide (xs = ys) = t)) :
    Calls Tryz.prog 26 #[.slice ao n ca, .slice bo m cb] w fun e w' => e = .returned (.bool t) ∧ w.grownBy w' none := by
  have h1 := convert_u8 (c := ca) ha
  have h2 := convert_u8 (c := cb) hb
  have h3 : ((strOfNums xs).toList == (strOfNums ys).toList) = t := by rw [Lib.strOfNums_toList, Lib.strOfNums_toList, bytes_inj hx hy, unhide HT]
  clear ha hb hx hy HT
  go_enter Tryz.func26, Tryz.ntmps26
  go_wp2
  go_ret
  exact ⟨rfl, World.grownBy.refl _ _⟩

theorem Fx.unpart {X : Array Value} {p wd ht rs n : Int} {D : Nat → Nat → Int} (h : Fx X p wd ht rs n D) : Fx (X.setIfInBounds 3 (.int .i64 0)) p wd ht 0 n D := by
  obtain ⟨hs, h0, h1, h2, h3, h4, hc⟩ := h
  refine ⟨by simpa using hs, ?_, ?_, ?_, ?_, ?_, fun i j hi hj => ?_⟩
  · rw [Array.getElem?_setIfInBounds]; simpa using h0
  · rw [Array.getElem?_setIfInBounds]; simpa using h1
  · rw [Array.getElem?_setIfInBounds]; simpa using h2
  · rw [Array.getElem?_setIfInBounds]; simp [hs]
  · rw [Array.getElem?_setIfInBounds]; simpa using h4
  · rw [Array.getElem?_setIfInBounds, if_neg (by omega)]; exact hc i j hi hj
set_option maxRecDepth 20000 in
set_option maxHeartbeats 1600000 in
theorem unparted19 (X : Array Value) (p wd ht rs n : Int) (D : Nat → Nat → Int) (hX : Fx X p wd ht rs n D) (w : World) :
    Calls Tryz.prog 51 #[.agg X] w fun e w' => e = .returned (.agg (X.setIfInBounds 3 (.int .i64 0))) ∧ w.grownBy w' none := by
  have hYF := hX.unpart
  obtain ⟨Y, HY⟩ : ∃ Y, Hid (X.setIfInBounds 3 (.int .i64 0) = Y) := ⟨_, rfl⟩
  have hs := hX.size
  have hL : ((w.alloc (.cells (X.setIfInBounds 3 (.int .i64 0)) 83)).alloc (.cells #[.int .i64 0, .int .i64 0, .int .i64 0, .int .i64 0, .int .i64 0, .int .i64 0, .int .i64 0, .int .i64 0, .int .i64 0, .int .i64 0, .int .i64 0, .int .i64 0, .int .i64 0, .int .i64 0, .int .i64 0, .int .i64 0, .int .i64 0, .int .i64 0, .int .i64 0, .int .i64 0, .int .i64 0] 83)).heap[w.heap.size]? = some (.cells Y 83 (0, 0)) := by
    rw [Below.heap_alloc _ _ _ (by simp), unhide HY]
    exact heap_alloc_new w _
  have hR : ((w.alloc (.cells (X.setIfInBounds 3 (.int .i64 0)) 83)).alloc (.cells #[.int .i64 0, .int .i64 0, .int .i64 0, .int .i64 0, .int .i64 0, .int .i64 0, .int .i64 0, .int .i64 0, .int .i64 0, .int .i64 0, .int .i64 0, .int .i64 0, .int .i64 0, .int .i64 0, .int .i64 0, .int .i64 0, .int .i64 0, .int .i64 0, .int .i64 0, .int .i64 0, .int .i64 0] 83)).heap[w.heap.size + 1]? = some (.cells #[.int .i64 0, .int .i64 0, .int .i64 0, .int .i64 0, .int .i64 0, .int .i64 0, .int .i64 0, .int .i64 0, .int .i64 0, .int .i64 0, .int .i64 0, .int .i64 0, .int .i64 0, .int .i64 0, .int .i64 0, .int .i64 0, .int .i64 0, .int .i64 0, .int .i64 0, .int .i64 0, .int .i64 0] 83 (0, 0)) := by
    have := heap_alloc_new (w.alloc (.cells (X.setIfInBounds 3 (.int .i64 0)) 83)) (.cells #[.int .i64 0, .int .i64 0, .int .i64 0, .int .i64 0, .int .i64 0, .int .i64 0, .int .i64 0, .int .i64 0, .int .i64 0, .int .i64 0, .int .i64 0, .int .i64 0, .int .i64 0, .int .i64 0, .int .i64 0, .int .i64 0, .int .i64 0, .int .i64 0, .int .i64 0, .int .i64 0, .int .i64 0] 83)
    simpa using this
  have HG : Hid (w.grownBy ((w.alloc (.cells (X.setIfInBounds 3 (.int .i64 0)) 83)).alloc (.cells #[.int .i64 0, .int .i64 0, .int .i64 0, .int .i64 0, .int .i64 0, .int .i64 0, .int .i64 0, .int .i64 0, .int .i64 0, .int .i64 0, .int .i64 0, .int .i64 0, .int .i64 0, .int .i64 0, .int .i64 0, .int .i64 0, .int .i64 0, .int .i64 0, .int .i64 0, .int .i64 0, .int .i64 0] 83)) none) := grown_alloc (World.grownBy_alloc _ _ _) _
  have HE : Hid (X.setIfInBounds 3 (.int .i64 0) = Y) := HY
  rw [unhide HY] at hYF
  have hys : Y.size = 21 := hYF.size
  have HYO := hide hYF.one
  clear hX hYF HY
  go_enter Tryz.func51, Tryz.ntmps51
  go_wp2_with (first | refine wpList_load_row rfl 83 _ rfl w.heap.size rfl Y 83 hL _ Tryz.underlying83 rfl (by rw [hys]; kernel_rfl) ?_ | (refine wpList_store_row rfl 83 _ _ rfl (w.heap.size + 1) rfl Y rfl #[.int .i64 0, .int .i64 0, .int .i64 0, .int .i64 0, .int .i64 0, .int .i64 0, .int .i64 0, .int .i64 0, .int .i64 0, .int .i64 0, .int .i64 0, .int .i64 0, .int .i64 0, .int .i64 0, .int .i64 0, .int .i64 0, .int .i64 0, .int .i64 0, .int .i64 0, .int .i64 0, .int .i64 0] 83 hR hys.symm (by rw [hys]; kernel_rfl) (unhide HYO) ?_; intro w6 hB6 g6))
  rw [unhide HE]
  refine bodyPost_ret (v := .agg Y) ?_ rfl ⟨rfl, grown_new (unhide HG) g6 (fun g e => by simp at e; omega)⟩
  rw [results_cell1 rfl]
  exact loadFx hys hB6

/-- Two frames are the same but for their restarts. -/
def sameFr (p wd ht : Int) (n : Nat) (C : Nat → Nat → Int) (p' wd' ht' : Int) (n' : Nat) (C' : Nat → Nat → Int) : Bool := p == p' && (wd == wd' && (ht == ht' && (decide (n = n') && decide (∀ i, i < n → compEq (C i) (C' i) = true))))
theorem frame_wf {p wd ht rs : Int} {n : Nat} {C : Nat → Nat → Int} (h : frameB p wd ht rs n C = true) : (0 ≤ p ∧ p ≤ 255) ∧ (0 ≤ wd ∧ wd ≤ 256) ∧ (0 ≤ ht ∧ ht ≤ 256) ∧ n ≤ 4 ∧ ∀ i j, j < 4 → (Lit.int .i64 (if i < n then C i j else 0)).wf = true := by
  rw [frameB, Bool.and_eq_true] at h
  obtain ⟨h1, h2, h3, -, -⟩ := headB_facts h.1
  have h4 := h.2
  rw [compsB, Bool.and_eq_true, Bool.and_eq_true] at h4
  have hn := of_decide_eq_true h4.1
  refine ⟨by omega, by omega, by omega, by omega, fun i j hj => ?_⟩
  by_cases hi : i < n
  · rw [if_pos hi]
    have h5 := okTo_true h4.2.1 (i + 1) (by omega)
    simp only [okTo, Bool.and_eq_true] at h5
    have h6 := compB_bounds h5.2.1
    have e : j = 0 ∨ j = 1 ∨ j = 2 ∨ j = 3 := by omega
    rcases e with rfl | rfl | rfl | rfl <;> exact WalkArith.wf_i64 (by omega)
  · rw [if_neg hi]; exact WalkArith.wf_i64 (by omega)
theorem eqD_fr {n : Nat} {C C' : Nat → Nat → Int} (hn : n ≤ 4) : eqD (fun i j => if i < n then C i j else 0) (fun i j => if i < n then C' i j else 0) = decide (∀ i, i < n → compEq (C i) (C' i) = true) := by
  rw [Bool.eq_iff_iff, decide_eq_true_iff]
  have key : ∀ i, compEq ((fun i j => if i < n then C i j else 0) i) ((fun i j => if i < n then C' i j else 0) i) = true ↔ (i < n → compEq (C i) (C' i) = true) := by
    intro i
    by_cases hi : i < n
    · simp [hi]
    · simp [hi, compEq]
  unfold eqD
  simp only [Bool.and_eq_true]
  rw [key 0, key 1, key 2, key 3]
  constructor
  · rintro ⟨h0, h1, h2, h3⟩ i hi
    have e : i = 0 ∨ i = 1 ∨ i = 2 ∨ i = 3 := by omega
    rcases e with rfl | rfl | rfl | rfl
    · exact h0 hi
    · exact h1 hi
    · exact h2 hi
    · exact h3 hi
  · exact fun h => ⟨h 0, h 1, h 2, h 3⟩

set_option maxRecDepth 20000 in
set_option maxHeartbeats 1600000 in
theorem sameUnparted19 (p wd ht rs : Int) (ao : Option Addr) (n cap : Nat) (C : Nat → Nat → Int) (p' wd' ht' rs' : Int) (ao' : Option Addr) (n' cap' : Nat) (C' : Nat → Nat → Int) (w : World) (h : RdC w ao n C) (h' : RdC w ao' n' C')
    (HF : Hid (frameB p wd ht rs n C = true)) (HF' : Hid (frameB p' wd' ht' rs' n' C' = true)) (t : Bool) (HT : Hid (sameFr p wd ht n C p' wd' ht' n' C' = t)) :
    Calls Tryz.prog 23 #[.agg #[.int .i64 p, .int .i64 wd, .int .i64 ht, .int .i64 rs, .slice ao n cap], .agg #[.int .i64 p', .int .i64 wd', .int .i64 ht', .int .i64 rs', .slice ao' n' cap']] w fun e w' => e = .returned (.bool t) ∧ w.grownBy w' none := by
  have HR := hide h
  have HR' := hide h'
  clear h h'
  obtain ⟨W0, HW⟩ : ∃ W, Hid ((w.alloc (.cells #[.int .i64 p, .int .i64 wd, .int .i64 ht, .int .i64 rs, .slice ao n cap] 37)).alloc (.cells #[.int .i64 p', .int .i64 wd', .int .i64 ht', .int .i64 rs', .slice ao' n' cap'] 37) = W) := ⟨_, rfl⟩
  have G0 : Hid (w.grownBy W0 none) := by rw [← unhide HW]; exact grown_alloc (World.grownBy_alloc _ _ _) _
  have B0 : Hid (W0.heap[w.heap.size]? = some (.cells #[.int .i64 p, .int .i64 wd, .int .i64 ht, .int .i64 rs, .slice ao n cap] 37 (0, 0))) := by
    rw [← unhide HW, Below.heap_alloc _ _ _ (by simp)]
    exact heap_alloc_new w _
  have C0 : Hid (W0.heap[w.heap.size + 1]? = some (.cells #[.int .i64 p', .int .i64 wd', .int .i64 ht', .int .i64 rs', .slice ao' n' cap'] 37 (0, 0))) := by
    rw [← unhide HW]
    unfold Hid
    have := heap_alloc_new (w.alloc (.cells #[.int .i64 p, .int .i64 wd, .int .i64 ht, .int .i64 rs, .slice ao n cap] 37)) (.cells #[.int .i64 p', .int .i64 wd', .int .i64 ht', .int .i64 rs', .slice ao' n' cap'] 37)
    simpa using this
  go_enter Tryz.func23, Tryz.ntmps23
  go_wp2_with fail
  rw [unhide HW]
  clear HW
  have gd := grown_drew (World.grownBy.refl W0 none)
  have G1 := hide (grown_trans (unhide G0) gd)
  have B1 : Hid (W0.drew.heap[w.heap.size]? = some _) := B0
  have C1 : Hid (W0.drew.heap[w.heap.size + 1]? = some _) := C0
  clear gd
  refine wp_region_noPanic ?_
  refine wp_region_tailL 20 (fun W => W.heap[w.heap.size]? = some (.cells #[.int .i64 p, .int .i64 wd, .int .i64 ht, .int .i64 rs, .slice ao n cap] 37 (0, 0)) ∧ W.heap[w.heap.size + 1]? = some (.cells #[.int .i64 p', .int .i64 wd', .int .i64 ht', .int .i64 rs', .slice ao' n' cap'] 37 (0, 0))) [true, false, false, true, false, false, false, false] (by kernel_rfl) (fun _ _ _ _ _ h => h) rfl (by decide) (by kernel_rfl) ⟨unhide B1, unhide C1⟩ ?_
  generalize W0.drew = W1 at *
  refine heldF_take (v := ?_) (Or.inl ⟨by rfl, ?_⟩) ?_
  rotate_left 1
  · intro w' hSw
    obtain ⟨z0, z1, z2, z3, z4⟩ := frameCells5 hSw.1
    go_simp
    try with_reducible rfl
  try simp only [Act.put, List.setIfInBounds_toArray, List.set_cons_zero, List.set_cons_succ]
  refine heldF_skip ?_
  refine heldF_skip ?_
  refine heldF_take (v := ?_) (Or.inl ⟨by rfl, ?_⟩) ?_
  rotate_left 1
  · intro w' hSw
    obtain ⟨z0, z1, z2, z3, z4⟩ := frameCells5 hSw.2
    go_simp
    try with_reducible rfl
  try simp only [Act.put, List.setIfInBounds_toArray, List.set_cons_zero, List.set_cons_succ]
  refine heldF_skip ?_
  refine heldF_skip ?_
  refine heldF_skip ?_
  refine heldF_skip ?_
  refine heldF_nil ?_
  refine tailL_skip ?_
  refine tailL_step (fun K hK => ?_)
  go_simp
  refine (fixFrameZ p wd ht rs ao n cap C W1 ((unhide HR).grown (unhide G1)) (by have := (frame_wf (unhide HF)).2.2.2.1; omega) true HF).mono ?_
  rintro e w2 ⟨X, rfl, -, hX, g2⟩
  have HX := hide (hX rfl)
  have G2 := hide (grown_trans (unhide G1) g2)
  have B2 := hide (grown_atT g2 (unhide B1) (by simp))
  have C2 := hide (grown_atT g2 (unhide C1) (by simp))
  clear g2 hX
  go_simp
  refine hK.out _ _ (.inr ⟨unhide B2, unhide C2⟩) ?_
  clear hK K
  try simp only [Act.put, List.setIfInBounds_toArray, List.set_cons_zero, List.set_cons_succ]
  refine tailL_step (fun K hK => ?_)
  go_simp
  refine (unparted19 X p wd ht rs n _ (unhide HX) w2).mono ?_
  rintro e w3 ⟨rfl, g3⟩
  have G3 := hide (grown_trans (unhide G2) g3)
  have B3 := hide (grown_atT g3 (unhide B2) (by simp))
  have C3 := hide (grown_atT g3 (unhide C2) (by simp))
  clear g3
  go_simp
  refine hK.out _ _ (.inr ⟨unhide B3, unhide C3⟩) ?_
  clear hK K
  try simp only [Act.put, List.setIfInBounds_toArray, List.set_cons_zero, List.set_cons_succ]
  refine tailL_skip ?_
  refine tailL_step (fun K hK => ?_)
  go_simp
  refine (fixFrameZ p' wd' ht' rs' ao' n' cap' C' w3 ((unhide HR').grown (unhide G3)) (by have := (frame_wf (unhide HF')).2.2.2.1; omega) true HF').mono ?_
  rintro e w4 ⟨Y, rfl, -, hY, g4⟩
  have HY := hide (hY rfl)
  have G4 := hide (grown_trans (unhide G3) g4)
  have B4 := hide (grown_atT g4 (unhide B3) (by simp))
  have C4 := hide (grown_atT g4 (unhide C3) (by simp))
  clear g4 hY
  go_simp
  refine hK.out _ _ (.inr ⟨unhide B4, unhide C4⟩) ?_
  clear hK K
  try simp only [Act.put, List.setIfInBounds_toArray, List.set_cons_zero, List.set_cons_succ]
  refine tailL_step (fun K hK => ?_)
  go_simp
  refine (unparted19 Y p' wd' ht' rs' n' _ (unhide HY) w4).mono ?_
  rintro e w5 ⟨rfl, g5⟩
  have G5 := hide (grown_trans (unhide G4) g5)
  have B5 := hide (grown_atT g5 (unhide B4) (by simp))
  have C5 := hide (grown_atT g5 (unhide C4) (by simp))
  clear g5
  go_simp
  refine hK.out _ _ (.inr ⟨unhide B5, unhide C5⟩) ?_
  clear hK K
  try simp only [Act.put, List.setIfInBounds_toArray, List.set_cons_zero, List.set_cons_succ]
  refine tailL_step (fun K hK => ?_)
  have HE : Hid (∀ W, (Op.equalIn 10000 83 (.agg (X.setIfInBounds 3 (.int .i64 0))) (.agg (Y.setIfInBounds 3 (.int .i64 0)))).run Tryz.prog W = .ok t W) := fun W => by
    obtain ⟨a1, a2, a3, a4, a5⟩ := frame_wf (unhide HF)
    obtain ⟨b1, b2, b3, b4, b5⟩ := frame_wf (unhide HF')
    rw [eqFx (unhide HX).unpart (unhide HY).unpart (WalkArith.wf_i64 (by omega)) (WalkArith.wf_i64 (by omega)) (WalkArith.wf_i64 (by omega)) (WalkArith.wf_i64 (by omega)) (WalkArith.wf_i64 (by omega)) a5 (WalkArith.wf_i64 (by omega)) (WalkArith.wf_i64 (by omega)) (WalkArith.wf_i64 (by omega)) (WalkArith.wf_i64 (by omega)) (WalkArith.wf_i64 (by omega)) b5 W]
    congr 1
    rw [← unhide HT, sameFr]
    by_cases hnn : n = n'
    · subst hnn
      rw [eqD_fr a4]
      simp
    · have hnI : ((n : Int) == (n' : Int)) = false := by simp; omega
      simp [hnn, hnI]
  have he := unhide HE
  go_simp
  refine hK.out _ _ (.inr ⟨unhide B5, unhide C5⟩) ?_
  clear hK K
  try simp only [Act.put, List.setIfInBounds_toArray, List.set_cons_zero, List.set_cons_succ]
  refine tailL_step (fun K hK => ?_)
  go_simp
  refine hK.out _ _ (.inl rfl) ?_
  clear hK K
  refine tailL_nil (NoPanic.normal ?_)
  try simp only [Act.put]
  go_wp2
  go_ret
  exact ⟨rfl, unhide G5⟩

set_option maxRecDepth 20000 in
set_option maxHeartbeats 3200000 in
theorem implSameStream (p wd ht rs md : Int) (ao : Option Addr) (n cap : Nat) (C : Nat → Nat → Int) (vt : Value) (T : List (List Int)) (vc : Value) (X : List (List (List Int))) (vs : Value) (S : List Scn) (no : Option Addr) (nn nc : Nat) (zs : List Int) (p' wd' ht' rs' md' : Int) (ao' : Option Addr) (n' cap' : Nat) (C' : Nat → Nat → Int) (vt' : Value) (T' : List (List Int)) (vc' : Value) (X' : List (List (List Int))) (vs' : Value) (S' : List Scn) (no' : Option Addr) (nn' nc' : Nat) (zs' : List Int) (w : World) (h : RdSt w ao n C vt T vc X vs S no nn zs) (hz : Sz15 n T X S nn) (h' : RdSt w ao' n' C' vt' T' vc' X' vs' S' no' nn' zs') (hz' : Sz15 n' T' X' S' nn') (hby : ∀ x ∈ zs, 0 ≤ x ∧ x < 256) (hby' : ∀ x ∈ zs', 0 ≤ x ∧ x < 256)
    (b : Bool) (HB : Hid (streamB p wd ht rs md n C T X S nn = b)) (b' : Bool) (HB' : Hid (streamB p' wd' ht' rs' md' n' C' T' X' S' nn' = b')) (t : Bool) (HT : Hid ((b && b' && (sameFr p wd ht n C p' wd' ht' n' C' && decide (T = T') && decide (zs = zs') && decide (X = X'))) = t)) :
    Calls Tryz.prog 7 #[.agg #[.int .i64 p, .int .i64 wd, .int .i64 ht, .int .i64 rs, .slice ao n cap, vt, vc, .int .i64 md, vs, .slice no nn nc], .agg #[.int .i64 p', .int .i64 wd', .int .i64 ht', .int .i64 rs', .slice ao' n' cap', vt', vc', .int .i64 md', vs', .slice no' nn' nc']] w fun e w' => e = .returned (.bool t) ∧ w.grownBy w' none := by
  have HRD := hide h
  have HZ := hide hz
  have HRD' := hide h'
  have HZ' := hide hz'
  have HY := hide hby
  have HY' := hide hby'
  obtain ⟨tO, tC, rfl⟩ : ∃ a c, vt = .slice a T.length c := by obtain ⟨a, c, e, _⟩ := h.tb; exact ⟨a, c, e⟩
  obtain ⟨cO, cC, rfl⟩ : ∃ a c, vc = .slice a X.length c := by obtain ⟨a, c, e, _⟩ := h.co; exact ⟨a, c, e⟩
  obtain ⟨sO, sC, rfl⟩ : ∃ a c, vs = .slice a S.length c := by obtain ⟨a, c, e, _⟩ := h.sc; exact ⟨a, c, e⟩
  obtain ⟨tO', tC', rfl⟩ : ∃ a c, vt' = .slice a T'.length c := by obtain ⟨a, c, e, _⟩ := h'.tb; exact ⟨a, c, e⟩
  obtain ⟨cO', cC', rfl⟩ : ∃ a c, vc' = .slice a X'.length c := by obtain ⟨a, c, e, _⟩ := h'.co; exact ⟨a, c, e⟩
  obtain ⟨sO', sC', rfl⟩ : ∃ a c, vs' = .slice a S'.length c := by obtain ⟨a, c, e, _⟩ := h'.sc; exact ⟨a, c, e⟩
  clear h hz h' hz' hby hby'
  obtain ⟨fr, HFR⟩ : ∃ y, Hid (sameFr p wd ht n C p' wd' ht' n' C' = y) := ⟨_, rfl⟩
  obtain ⟨tb, HTB⟩ : ∃ y, Hid (decide (T = T') = y) := ⟨_, rfl⟩
  obtain ⟨zb, HZB⟩ : ∃ y, Hid (decide (zs = zs') = y) := ⟨_, rfl⟩
  obtain ⟨xb, HXB⟩ : ∃ y, Hid (decide (X = X') = y) := ⟨_, rfl⟩
  rw [unhide HFR, unhide HTB, unhide HZB, unhide HXB] at HT
  obtain ⟨W0, HW⟩ : ∃ W, Hid ((w.alloc (.cells #[.int .i64 p, .int .i64 wd, .int .i64 ht, .int .i64 rs, .slice ao n cap, .slice tO T.length tC, .slice cO X.length cC, .int .i64 md, .slice sO S.length sC, .slice no nn nc] 41)).alloc (.cells #[.int .i64 p', .int .i64 wd', .int .i64 ht', .int .i64 rs', .slice ao' n' cap', .slice tO' T'.length tC', .slice cO' X'.length cC', .int .i64 md', .slice sO' S'.length sC', .slice no' nn' nc'] 41) = W) := ⟨_, rfl⟩
  have G0 : Hid (w.grownBy W0 none) := by rw [← unhide HW]; exact grown_alloc (World.grownBy_alloc _ _ _) _
  have B0 : Hid (W0.heap[w.heap.size]? = some (.cells #[.int .i64 p, .int .i64 wd, .int .i64 ht, .int .i64 rs, .slice ao n cap, .slice tO T.length tC, .slice cO X.length cC, .int .i64 md, .slice sO S.length sC, .slice no nn nc] 41 (0, 0))) := by
    rw [← unhide HW, Below.heap_alloc _ _ _ (by simp)]
    exact heap_alloc_new w _
  have C0 : Hid (W0.heap[w.heap.size + 1]? = some (.cells #[.int .i64 p', .int .i64 wd', .int .i64 ht', .int .i64 rs', .slice ao' n' cap', .slice tO' T'.length tC', .slice cO' X'.length cC', .int .i64 md', .slice sO' S'.length sC', .slice no' nn' nc'] 41 (0, 0))) := by
    rw [← unhide HW]
    unfold Hid
    have := heap_alloc_new (w.alloc (.cells #[.int .i64 p, .int .i64 wd, .int .i64 ht, .int .i64 rs, .slice ao n cap, .slice tO T.length tC, .slice cO X.length cC, .int .i64 md, .slice sO S.length sC, .slice no nn nc] 41)) (.cells #[.int .i64 p', .int .i64 wd', .int .i64 ht', .int .i64 rs', .slice ao' n' cap', .slice tO' T'.length tC', .slice cO' X'.length cC', .int .i64 md', .slice sO' S'.length sC', .slice no' nn' nc'] 41)
    simpa using this
  go_enter Tryz.func7, Tryz.ntmps7
  go_wp2_with fail
  rw [unhide HW]
  clear HW
  go_wp2_with (refine load_row rfl 41 _ rfl (w.heap.size) rfl #[.int .i64 p, .int .i64 wd, .int .i64 ht, .int .i64 rs, .slice ao n cap, .slice tO T.length tC, .slice cO X.length cC, .int .i64 md, .slice sO S.length sC, .slice no nn nc] 41 (unhide B0) _ Tryz.underlying41 rfl (by kernel_rfl) ?_)
  refine (implStreamOk p wd ht rs md ao n cap C _ T _ X _ S no nn nc zs W0 ((unhide HRD).st (unhide G0)) (unhide HZ) b HB).mono ?_
  rintro e w1 ⟨rfl, g1⟩
  have G1 := hide (grown_trans (unhide G0) g1)
  have B1 := hide (grown_atT g1 (unhide B0) (by simp))
  have C1 := hide (grown_atT g1 (unhide C0) (by simp))
  clear g1 G0 B0 C0
  cases b with
  | false =>
    obtain rfl : t = false := by rw [← unhide HT]; simp
    go_wp2
    go_ret
    exact ⟨rfl, unhide G1⟩
  | true =>
    go_wp2_with (refine load_row rfl 41 _ rfl (w.heap.size + 1) rfl #[.int .i64 p', .int .i64 wd', .int .i64 ht', .int .i64 rs', .slice ao' n' cap', .slice tO' T'.length tC', .slice cO' X'.length cC', .int .i64 md', .slice sO' S'.length sC', .slice no' nn' nc'] 41 (unhide C1) _ Tryz.underlying41 rfl (by kernel_rfl) ?_)
    refine (implStreamOk p' wd' ht' rs' md' ao' n' cap' C' _ T' _ X' _ S' no' nn' nc' zs' w1 ((unhide HRD').st (unhide G1)) (unhide HZ') b' HB').mono ?_
    rintro e w2 ⟨rfl, g2⟩
    have G2 := hide (grown_trans (unhide G1) g2)
    have B2 := hide (grown_atT g2 (unhide B1) (by simp))
    have C2 := hide (grown_atT g2 (unhide C1) (by simp))
    clear g2 G1 B1 C1
    cases b' with
    | false =>
      obtain rfl : t = false := by rw [← unhide HT]; simp
      go_wp2
      go_ret
      exact ⟨rfl, unhide G2⟩
    | true =>
      have HF : Hid (frameB p wd ht rs n C = true) := (by have h := unhide HB; rw [streamB] at h; simp only [Bool.and_eq_true] at h; exact h.1.1.1.1.1)
      have HF' : Hid (frameB p' wd' ht' rs' n' C' = true) := (by have h := unhide HB'; rw [streamB] at h; simp only [Bool.and_eq_true] at h; exact h.1.1.1.1.1)
      obtain ⟨a0, a1, a2, a3, a4, a5, a6, a7, a8, a9⟩ := cells10 (unhide B2)
      obtain ⟨q0, q1, q2, q3, q4, q5, q6, q7, q8, q9⟩ := cells10 (unhide C2)
      go_wp2_with fail
      refine (sameUnparted19 p wd ht rs ao n cap C p' wd' ht' rs' ao' n' cap' C' w2 ((unhide HRD).fr.grown (unhide G2)) ((unhide HRD').fr.grown (unhide G2)) HF HF' fr HFR).mono ?_
      rintro e w3 ⟨rfl, g3⟩
      clear a0 a1 a2 a3 a4 a5 a6 a7 a8 a9 q0 q1 q2 q3 q4 q5 q6 q7 q8 q9
      have G3 := hide (grown_trans (unhide G2) g3)
      have B3 := hide (grown_atT g3 (unhide B2) (by simp))
      have C3 := hide (grown_atT g3 (unhide C2) (by simp))
      clear g3 G2 B2 C2
      cases fr with
      | false =>
        obtain rfl : t = false := by rw [← unhide HT]; simp
        go_wp2
        go_ret
        exact ⟨rfl, unhide G3⟩
      | true =>
        obtain ⟨a0, a1, a2, a3, a4, a5, a6, a7, a8, a9⟩ := cells10 (unhide B3)
        obtain ⟨q0, q1, q2, q3, q4, q5, q6, q7, q8, q9⟩ := cells10 (unhide C3)
        go_wp2_with fail
        refine (implLists19 _ _ T T' w3 (RdR.st (RdI.st .i64) _ _ _ _ (unhide HRD).tb (unhide G3)) (RdR.st (RdI.st .i64) _ _ _ _ (unhide HRD').tb (unhide G3)) (unhide HZ).tb tb HTB).mono ?_
        rintro e w4 ⟨rfl, g4⟩
        clear a0 a1 a2 a3 a4 a5 a6 a7 a8 a9 q0 q1 q2 q3 q4 q5 q6 q7 q8 q9
        have G4 := hide (grown_trans (unhide G3) g4)
        have B4 := hide (grown_atT g4 (unhide B3) (by simp))
        have C4 := hide (grown_atT g4 (unhide C3) (by simp))
        clear g4 G3 B3 C3
        cases tb with
        | false =>
          obtain rfl : t = false := by rw [← unhide HT]; simp
          go_wp2
          go_ret
          exact ⟨rfl, unhide G4⟩
        | true =>
          obtain ⟨a0, a1, a2, a3, a4, a5, a6, a7, a8, a9⟩ := cells10 (unhide B4)
          obtain ⟨q0, q1, q2, q3, q4, q5, q6, q7, q8, q9⟩ := cells10 (unhide C4)
          go_wp2_with fail
          refine (implCoefs19 _ _ X X' w4 (st3 _ _ _ _ (unhide HRD).co (unhide G4)) (st3 _ _ _ _ (unhide HRD').co (unhide G4)) (unhide HZ).co xb HXB).mono ?_
          rintro e w5 ⟨rfl, g5⟩
          clear a0 a1 a2 a3 a4 a5 a6 a7 a8 a9 q0 q1 q2 q3 q4 q5 q6 q7 q8 q9
          have G5 := hide (grown_trans (unhide G4) g5)
          have B5 := hide (grown_atT g5 (unhide B4) (by simp))
          have C5 := hide (grown_atT g5 (unhide C4) (by simp))
          clear g5 G4 B4 C4
          cases xb with
          | false =>
            obtain rfl : t = false := by rw [← unhide HT]; simp
            go_wp2
            go_ret
            exact ⟨rfl, unhide G5⟩
          | true =>
            obtain ⟨a0, a1, a2, a3, a4, a5, a6, a7, a8, a9⟩ := cells10 (unhide B5)
            obtain ⟨q0, q1, q2, q3, q4, q5, q6, q7, q8, q9⟩ := cells10 (unhide C5)
            go_wp2_with fail
            refine (implBytes19 no nn nc zs no' nn' nc' zs' w5 ((unhide HRD).nt.grown (unhide G5)) ((unhide HRD').nt.grown (unhide G5)) (unhide HY) (unhide HY') zb HZB).mono ?_
            rintro e w6 ⟨rfl, g6⟩
            clear a0 a1 a2 a3 a4 a5 a6 a7 a8 a9 q0 q1 q2 q3 q4 q5 q6 q7 q8 q9
            have G6 := hide (grown_trans (unhide G5) g6)
            have B6 := hide (grown_atT g6 (unhide B5) (by simp))
            have C6 := hide (grown_atT g6 (unhide C5) (by simp))
            clear g6 G5 B5 C5
            obtain rfl : t = zb := by rw [← unhide HT]; simp
            go_wp2
            go_ret
            exact ⟨rfl, unhide G6⟩

end Go.Proofs.YtjkokbijnaodnaaGreat

namespace Go.Proofs.YtjkokbijnaodnaaGreat
open Go.RowKit

set_option maxRecDepth 20000 in
theorem eqComp19 (c d : Nat → Int) (hc : ∀ j, j < 4 → (Lit.int .i64 (c j)).wf = true) (hd : ∀ j, j < 4 → (Lit.int .i64 (d j)).wf = true) (w : World) :
    (Op.equalIn 10000 53 (.agg #[.int .i64 (c 0), .int .i64 (c 1), .int .i64 (c 2), .int .i64 (c 3)]) (.agg #[.int .i64 (d 0), .int .i64 (d 1), .int .i64 (d 2), .int .i64 (d 3)])).run Tryz.prog w = .ok (compEq c d) w := by
  have hc4 : Tryz.prog.cellsOf 53 = 4 := by kernel_rfl
  obtain ⟨r, hr, hi⟩ := run_equalIn_deep (P := Tryz.prog) 9998 2 53 (by kernel_rfl) w _ _ (.agg (cellsC c).toArray) (.agg (cellsC d).toArray) _ _ (by simp [Value.formed, Tryz.underlying53, hc4, cellsC]) (by simp [Value.formed, Tryz.underlying53, hc4, cellsC]) (keyCompF 0 c hc) (keyCompF 0 d hd)
  refine hr.trans (congrArg (fun b => Result.ok b w) ?_)
  rw [Bool.eq_iff_iff, hi]
  exact litsC_eq
theorem coefs_len {b : Bool} {wd ht : Int} {n : Nat} {C : Nat → Nat → Int} {X : List (List (List Int))} (h : coefsOkF b wd ht n C X = true) : X.length = n := by
  unfold coefsOkF coefsOkB at h
  simp only [Bool.and_eq_true] at h
  exact of_decide_eq_true h.2.1
theorem rdC_cells {w : World} {ao : Option Addr} {n : Nat} {C : Nat → Nat → Int} (h : RdC w ao n C) {k : Nat} (hk : k < n) : ∃ b off, ao = some ⟨b, off, none⟩ ∧ w.cell? ⟨b, off + k * 4, none⟩ = some (.int .i64 (C k 0)) ∧ w.cell? ⟨b, off + k * 4 + 1, none⟩ = some (.int .i64 (C k 1)) ∧ w.cell? ⟨b, off + k * 4 + 2, none⟩ = some (.int .i64 (C k 2)) ∧ w.cell? ⟨b, off + k * 4 + 3, none⟩ = some (.int .i64 (C k 3)) := by
  obtain ⟨b, off, e, hc⟩ := h k hk
  exact ⟨b, off, e, hc 0 (by omega), hc 1 (by omega), hc 2 (by omega), hc 3 (by omega)⟩

set_option maxRecDepth 20000 in
set_option maxHeartbeats 3200000 in
theorem specSameStream (p wd ht rs md : Int) (ao : Option Addr) (n cap : Nat) (C : Nat → Nat → Int) (vt : Value) (T : List (List Int)) (vc : Value) (X : List (List (List Int))) (vs : Value) (S : List Scn) (no : Option Addr) (nn nc : Nat) (zs : List Int) (p' wd' ht' rs' md' : Int) (ao' : Option Addr) (n' cap' : Nat) (C' : Nat → Nat → Int) (vt' : Value) (T' : List (List Int)) (vc' : Value) (X' : List (List (List Int))) (vs' : Value) (S' : List Scn) (no' : Option Addr) (nn' nc' : Nat) (zs' : List Int) (w : World) (h : RdSt w ao n C vt T vc X vs S no nn zs) (hz : Sz15 n T X S nn) (h' : RdSt w ao' n' C' vt' T' vc' X' vs' S' no' nn' zs') (hz' : Sz15 n' T' X' S' nn') (hby : ∀ x ∈ zs, 0 ≤ x ∧ x < 256) (hby' : ∀ x ∈ zs', 0 ≤ x ∧ x < 256)
    (b : Bool) (HB : Hid (streamB p wd ht rs md n C T X S nn = b)) (b' : Bool) (HB' : Hid (streamB p' wd' ht' rs' md' n' C' T' X' S' nn' = b')) (t : Bool) (HT : Hid ((b && b' && (sameFr p wd ht n C p' wd' ht' n' C' && decide (T = T') && decide (zs = zs') && decide (X = X'))) = t)) :
    Calls Tryz.prog 5 #[.agg #[.int .i64 p, .int .i64 wd, .int .i64 ht, .int .i64 rs, .slice ao n cap, vt, vc, .int .i64 md, vs, .slice no nn nc], .agg #[.int .i64 p', .int .i64 wd', .int .i64 ht', .int .i64 rs', .slice ao' n' cap', vt', vc', .int .i64 md', vs', .slice no' nn' nc']] w fun e w' => e = .returned (.bool t) ∧ w.grownBy w' none := by
  have HRD := hide h
  have HZ := hide hz
  have HRD' := hide h'
  have HZ' := hide hz'
  have HY := hide hby
  have HY' := hide hby'
  obtain ⟨tO, tC, rfl⟩ : ∃ a c, vt = .slice a T.length c := by obtain ⟨a, c, e, _⟩ := h.tb; exact ⟨a, c, e⟩
  obtain ⟨cO, cC, rfl⟩ : ∃ a c, vc = .slice a X.length c := by obtain ⟨a, c, e, _⟩ := h.co; exact ⟨a, c, e⟩
  obtain ⟨sO, sC, rfl⟩ : ∃ a c, vs = .slice a S.length c := by obtain ⟨a, c, e, _⟩ := h.sc; exact ⟨a, c, e⟩
  obtain ⟨tO', tC', rfl⟩ : ∃ a c, vt' = .slice a T'.length c := by obtain ⟨a, c, e, _⟩ := h'.tb; exact ⟨a, c, e⟩
  obtain ⟨cO', cC', rfl⟩ : ∃ a c, vc' = .slice a X'.length c := by obtain ⟨a, c, e, _⟩ := h'.co; exact ⟨a, c, e⟩
  obtain ⟨sO', sC', rfl⟩ : ∃ a c, vs' = .slice a S'.length c := by obtain ⟨a, c, e, _⟩ := h'.sc; exact ⟨a, c, e⟩
  clear h hz h' hz' hby hby'
  obtain ⟨fr, HFR⟩ : ∃ y, Hid (sameFr p wd ht n C p' wd' ht' n' C' = y) := ⟨_, rfl⟩
  obtain ⟨tb, HTB⟩ : ∃ y, Hid (decide (T = T') = y) := ⟨_, rfl⟩
  obtain ⟨zb, HZB⟩ : ∃ y, Hid (decide (zs = zs') = y) := ⟨_, rfl⟩
  obtain ⟨xb, HXB⟩ : ∃ y, Hid (decide (X = X') = y) := ⟨_, rfl⟩
  rw [unhide HFR, unhide HTB, unhide HZB, unhide HXB] at HT
  obtain ⟨W0, HW⟩ : ∃ W, Hid ((w.alloc (.cells #[.int .i64 p, .int .i64 wd, .int .i64 ht, .int .i64 rs, .slice ao n cap, .slice tO T.length tC, .slice cO X.length cC, .int .i64 md, .slice sO S.length sC, .slice no nn nc] 41)).alloc (.cells #[.int .i64 p', .int .i64 wd', .int .i64 ht', .int .i64 rs', .slice ao' n' cap', .slice tO' T'.length tC', .slice cO' X'.length cC', .int .i64 md', .slice sO' S'.length sC', .slice no' nn' nc'] 41) = W) := ⟨_, rfl⟩
  have G0 : Hid (w.grownBy W0 none) := by rw [← unhide HW]; exact grown_alloc (World.grownBy_alloc _ _ _) _
  have B0 : Hid (W0.heap[w.heap.size]? = some (.cells #[.int .i64 p, .int .i64 wd, .int .i64 ht, .int .i64 rs, .slice ao n cap, .slice tO T.length tC, .slice cO X.length cC, .int .i64 md, .slice sO S.length sC, .slice no nn nc] 41 (0, 0))) := by
    rw [← unhide HW, Below.heap_alloc _ _ _ (by simp)]
    exact heap_alloc_new w _
  have C0 : Hid (W0.heap[w.heap.size + 1]? = some (.cells #[.int .i64 p', .int .i64 wd', .int .i64 ht', .int .i64 rs', .slice ao' n' cap', .slice tO' T'.length tC', .slice cO' X'.length cC', .int .i64 md', .slice sO' S'.length sC', .slice no' nn' nc'] 41 (0, 0))) := by
    rw [← unhide HW]
    unfold Hid
    have := heap_alloc_new (w.alloc (.cells #[.int .i64 p, .int .i64 wd, .int .i64 ht, .int .i64 rs, .slice ao n cap, .slice tO T.length tC, .slice cO X.length cC, .int .i64 md, .slice sO S.length sC, .slice no nn nc] 41)) (.cells #[.int .i64 p', .int .i64 wd', .int .i64 ht', .int .i64 rs', .slice ao' n' cap', .slice tO' T'.length tC', .slice cO' X'.length cC', .int .i64 md', .slice sO' S'.length sC', .slice no' nn' nc'] 41)
    simpa using this
  go_enter Tryz.func5, Tryz.ntmps5
  go_wp2_with fail
  rw [unhide HW]
  clear HW
  go_wp2_with (refine load_row rfl 41 _ rfl (w.heap.size) rfl #[.int .i64 p, .int .i64 wd, .int .i64 ht, .int .i64 rs, .slice ao n cap, .slice tO T.length tC, .slice cO X.length cC, .int .i64 md, .slice sO S.length sC, .slice no nn nc] 41 (unhide B0) _ Tryz.underlying41 rfl (by kernel_rfl) ?_)
  refine (specStreamOk p wd ht rs md ao n cap C _ T _ X _ S no nn nc zs W0 ((unhide HRD).st (unhide G0)) (unhide HZ) b HB).mono ?_
  rintro e w1 ⟨rfl, g1⟩
  have G1 := hide (grown_trans (unhide G0) g1)
  have B1 := hide (grown_atT g1 (unhide B0) (by simp))
  have C1 := hide (grown_atT g1 (unhide C0) (by simp))
  clear g1 G0 B0 C0
  cases b with
  | false =>
    obtain rfl : t = false := by rw [← unhide HT]; simp
    go_wp2
    go_ret
    exact ⟨rfl, unhide G1⟩
  | true =>
    go_wp2_with (refine load_row rfl 41 _ rfl (w.heap.size + 1) rfl #[.int .i64 p', .int .i64 wd', .int .i64 ht', .int .i64 rs', .slice ao' n' cap', .slice tO' T'.length tC', .slice cO' X'.length cC', .int .i64 md', .slice sO' S'.length sC', .slice no' nn' nc'] 41 (unhide C1) _ Tryz.underlying41 rfl (by kernel_rfl) ?_)
    refine (specStreamOk p' wd' ht' rs' md' ao' n' cap' C' _ T' _ X' _ S' no' nn' nc' zs' w1 ((unhide HRD').st (unhide G1)) (unhide HZ') b' HB').mono ?_
    rintro e w2 ⟨rfl, g2⟩
    have G2 := hide (grown_trans (unhide G1) g2)
    have B2 := hide (grown_atT g2 (unhide B1) (by simp))
    have C2 := hide (grown_atT g2 (unhide C1) (by simp))
    clear g2 G1 B1 C1
    cases b' with
    | false =>
      obtain rfl : t = false := by rw [← unhide HT]; simp
      go_wp2
      go_ret
      exact ⟨rfl, unhide G2⟩
    | true =>
      have HF : Hid (frameB p wd ht rs n C = true) := (by have h := unhide HB; rw [streamB] at h; simp only [Bool.and_eq_true] at h; exact h.1.1.1.1.1)
      have HF' : Hid (frameB p' wd' ht' rs' n' C' = true) := (by have h := unhide HB'; rw [streamB] at h; simp only [Bool.and_eq_true] at h; exact h.1.1.1.1.1)
      have hnX : X.length = n := (by have h := unhide HB; rw [streamB] at h; simp only [Bool.and_eq_true] at h; exact coefs_len h.1.1.1.2)
      have hnX' : X'.length = n' := (by have h := unhide HB'; rw [streamB] at h; simp only [Bool.and_eq_true] at h; exact coefs_len h.1.1.1.2)
      have HWF := hide (frame_wf (unhide HF))
      have HWF' := hide (frame_wf (unhide HF'))
      have HNX := hide hnX
      have HNX' := hide hnX'
      clear hnX hnX' HB HB'
      obtain ⟨a0, a1, a2, a3, a4, a5, a6, a7, a8, a9⟩ := cells10 (unhide B2)
      obtain ⟨q0, q1, q2, q3, q4, q5, q6, q7, q8, q9⟩ := cells10 (unhide C2)
      by_cases e0 : ¬ p = p'
      · obtain rfl : fr = false := by rw [← unhide HFR, sameFr]; simp [e0]
        obtain rfl : t = false := by rw [← unhide HT]; simp
        have d0 : (p != p') = true := by simpa using e0
        go_wp2
        go_ret
        exact ⟨rfl, unhide G2⟩
      have f0 : p = p' := by omega
      have d0 : (p != p') = false := by simp [f0]
      clear e0
      by_cases e1 : ¬ wd = wd'
      · obtain rfl : fr = false := by rw [← unhide HFR, sameFr]; simp [e1]
        obtain rfl : t = false := by rw [← unhide HT]; simp
        have d1 : (wd != wd') = true := by simpa using e1
        go_wp2
        go_ret
        exact ⟨rfl, unhide G2⟩
      have f1 : wd = wd' := by omega
      have d1 : (wd != wd') = false := by simp [f1]
      clear e1
      by_cases e2 : ¬ ht = ht'
      · obtain rfl : fr = false := by rw [← unhide HFR, sameFr]; simp [e2]
        obtain rfl : t = false := by rw [← unhide HT]; simp
        have d2 : (ht != ht') = true := by simpa using e2
        go_wp2
        go_ret
        exact ⟨rfl, unhide G2⟩
      have f2 : ht = ht' := by omega
      have d2 : (ht != ht') = false := by simp [f2]
      clear e2
      by_cases e3 : ¬ n = n'
      · obtain rfl : fr = false := by rw [← unhide HFR, sameFr]; simp [e3]
        obtain rfl : t = false := by rw [← unhide HT]; simp
        have d3 : ((n : Int) != (n' : Int)) = true := by simp; omega
        go_wp2
        go_ret
        exact ⟨rfl, unhide G2⟩
      obtain rfl : n = n' := by omega
      have d3 : ((n : Int) != (n : Int)) = false := by simp
      clear e3
      have HFR2 : Hid (decide (∀ i, i < n → compEq (C i) (C' i) = true) = fr) := by unfold Hid; rw [← unhide HFR, sameFr]; simp [f0, f1, f2]
      clear HFR
      go_wp2_with fail
      refine (specLists19 _ _ T T' w2 (RdR.st (RdI.st .i64) _ _ _ _ (unhide HRD).tb (unhide G2)) (RdR.st (RdI.st .i64) _ _ _ _ (unhide HRD').tb (unhide G2)) (unhide HZ).tb tb HTB).mono ?_
      rintro e w3 ⟨rfl, g3⟩
      clear a0 a1 a2 a3 a4 a5 a6 a7 a8 a9 q0 q1 q2 q3 q4 q5 q6 q7 q8 q9
      have G3 := hide (grown_trans (unhide G2) g3)
      have B3 := hide (grown_atT g3 (unhide B2) (by simp))
      have C3 := hide (grown_atT g3 (unhide C2) (by simp))
      clear g3 G2 B2 C2
      cases tb with
      | false =>
        obtain rfl : t = false := by rw [← unhide HT]; simp
        go_wp2
        go_ret
        exact ⟨rfl, unhide G3⟩
      | true =>
        obtain ⟨a0, a1, a2, a3, a4, a5, a6, a7, a8, a9⟩ := cells10 (unhide B3)
        obtain ⟨q0, q1, q2, q3, q4, q5, q6, q7, q8, q9⟩ := cells10 (unhide C3)
        go_wp2_with fail
        refine (specBytes19 no nn nc zs no' nn' nc' zs' w3 ((unhide HRD).nt.grown (unhide G3)) ((unhide HRD').nt.grown (unhide G3)) (unhide HZ).nt zb HZB).mono ?_
        rintro e w4 ⟨rfl, g4⟩
        clear a0 a1 a2 a3 a4 a5 a6 a7 a8 a9 q0 q1 q2 q3 q4 q5 q6 q7 q8 q9
        have G4 := hide (grown_trans (unhide G3) g4)
        have B4 := hide (grown_atT g4 (unhide B3) (by simp))
        have C4 := hide (grown_atT g4 (unhide C3) (by simp))
        clear g4 G3 B3 C3
        cases zb with
        | false =>
          obtain rfl : t = false := by rw [← unhide HT]; simp
          go_wp2
          go_ret
          exact ⟨rfl, unhide G4⟩
        | true =>
          have HT2 : Hid ((fr && xb) = t) := by unfold Hid; rw [← unhide HT]; simp
          clear HT HTB HZB d0 d1 d2 d3
          have HRF := hide ((unhide HRD).fr)
          have HRF' := hide ((unhide HRD').fr)
          have HN4 := hide (unhide HWF).2.2.2.1
          obtain ⟨cO1, cC1, ec1, hel⟩ := (unhide HRD).co
          obtain ⟨cO2, cC2, ec2, hel'⟩ := (unhide HRD').co
          obtain ⟨rfl, rfl⟩ : cO = cO1 ∧ cC = cC1 := by simpa using ec1
          obtain ⟨rfl, rfl⟩ : cO' = cO2 ∧ cC' = cC2 := by simpa using ec2
          have HEL := hide hel
          have HEL' := hide hel'
          clear hel hel' ec1 ec2 HRD HRD'
          have HSE : Hid (∀ i (h : i < X.length), szR lenI X[i] ≤ 1048576) := fun i h => Nat.le_trans (szR_el (szR lenI) X i h).2 (unhide HZ).co
          obtain ⟨tn, HTN⟩ : ∃ m, Hid (T.length = m) := ⟨_, rfl⟩
          obtain ⟨tn', HTN'⟩ : ∃ m, Hid (T'.length = m) := ⟨_, rfl⟩
          obtain ⟨sn, HSN⟩ : ∃ m, Hid (S.length = m) := ⟨_, rfl⟩
          obtain ⟨sn', HSN'⟩ : ∃ m, Hid (S'.length = m) := ⟨_, rfl⟩
          rw [unhide HTN, unhide HNX, unhide HSN] at B4
          rw [unhide HTN', unhide HNX', unhide HSN'] at C4
          obtain ⟨a0, a1, a2, a3, a4, a5, a6, a7, a8, a9⟩ := cells10 (unhide B4)
          obtain ⟨q0, q1, q2, q3, q4, q5, q6, q7, q8, q9⟩ := cells10 (unhide C4)
          go_wp2
          go_loopw [5] (fun i wr => ∃ k : Nat, k ≤ n ∧ i = .int .i64 k ∧ Hid (∀ i, i < k → compEq (C i) (C' i) = true) ∧ Hid (X.take k = X'.take k) ∧ Hid (w.grownBy wr none) ∧ Hid (wr.heap[w.heap.size]? = some (.cells #[.int .i64 p, .int .i64 wd, .int .i64 ht, .int .i64 rs, .slice ao n cap, .slice tO tn tC, .slice cO n cC, .int .i64 md, .slice sO sn sC, .slice no nn nc] 41 (0, 0))) ∧ Hid (wr.heap[w.heap.size + 1]? = some (.cells #[.int .i64 p', .int .i64 wd', .int .i64 ht', .int .i64 rs', .slice ao' n cap', .slice tO' tn' tC', .slice cO' n cC', .int .i64 md', .slice sO' sn' sC', .slice no' nn' nc'] 41 (0, 0)))) (fun i _ => n - (intOf i).toNat)
          case atStart => exact ⟨0, Nat.zero_le _, rfl, fun i hi => absurd hi (by omega), by simp [Hid], G4, B4, C4⟩
          clear G4 B4 C4 a0 a1 a2 a3 a4 a5 a6 a7 a8 a9 q0 q1 q2 q3 q4 q5 q6 q7 q8 q9
          case round =>
            obtain ⟨k, hk, rfl, HCK, HTK, HG, HBX, HCX⟩ := hrel
            obtain ⟨z0, z1, z2, z3, z4, z5, z6, z7, z8, z9⟩ := cells10 (unhide HBX)
            obtain ⟨r0, r1, r2, r3, r4, r5, r6, r7, r8, r9⟩ := cells10 (unhide HCX)
            by_cases hlt : k < n
            · have hkI : (k : Int) < (n : Int) := by omega
              have k1 := i64_in ((k : Int) + 1) (by have := unhide HN4; omega)
              have h1 : k < X.length := by rw [unhide HNX]; exact hlt
              have h2 : k < X'.length := by rw [unhide HNX']; exact hlt
              obtain ⟨rb, roff, u, e1, a0, q0⟩ := unhide HEL k h1
              obtain ⟨ib, ioff, u', e2, c0, q1⟩ := unhide HEL' k h2
              obtain ⟨fb, foff, e3, x0, x1, x2, x3⟩ := rdC_cells ((unhide HRF).grown (unhide HG)) hlt
              obtain ⟨jb, joff, e4, y0, y1, y2, y3⟩ := rdC_cells ((unhide HRF').grown (unhide HG)) hlt
              subst e1
              subst e2
              subst e3
              subst e4
              have HEQ : Hid (X[k] = X'[k] → X.take (k + 1) = X'.take (k + 1)) := fun e => take_both h1 h2 (unhide HTK) e
              have HNE : Hid (¬ X[k] = X'[k] → xb = false) := fun e => by rw [← unhide HXB]; exact decide_eq_false (ne_at h1 h2 e)
              have HSK := hide (unhide HSE k h1)
              have HQ0 := hide (RdR.st (RdI.st .i64) _ _ _ _ q0 (unhide HG))
              have HQ1 := hide (RdR.st (RdI.st .i64) _ _ _ _ q1 (unhide HG))
              generalize X[k] = P1 at *
              generalize X'[k] = P2 at *
              have a0 := (unhide HG).cell a0 (by simp)
              have c0 := (unhide HG).cell c0 (by simp)
              have HCE : Hid (∀ W, (Op.equalIn 10000 53 (.agg #[.int .i64 (C k 0), .int .i64 (C k 1), .int .i64 (C k 2), .int .i64 (C k 3)]) (.agg #[.int .i64 (C' k 0), .int .i64 (C' k 1), .int .i64 (C' k 2), .int .i64 (C' k 3)])).run Tryz.prog W = .ok (compEq (C k) (C' k)) W) := fun W => eqComp19 (C k) (C' k) (fun j hj => by have := (unhide HWF).2.2.2.2 k j hj; rwa [if_pos hlt] at this) (fun j hj => by have := (unhide HWF').2.2.2.2 k j hj; rwa [if_pos hlt] at this) W
              obtain ⟨ce, hce⟩ : ∃ y, compEq (C k) (C' k) = y := ⟨_, rfl⟩
              rw [hce] at HCE
              have HCN : Hid (ce = true → ∀ i, i < k + 1 → compEq (C i) (C' i) = true) := fun h i hi => by
                by_cases e : i = k
                · rw [e, hce, h]
                · exact unhide HCK i (by omega)
              have HCF : Hid (ce = false → fr = false) := fun h => by rw [← unhide HFR2]; exact decide_eq_false (fun ha => by have := ha k hlt; rw [hce, h] at this; cases this)
              clear hce h1 h2 q0 q1
              generalize C k 0 = v0 at *
              generalize C k 1 = v1 at *
              generalize C k 2 = v2 at *
              generalize C k 3 = v3 at *
              generalize C' k 0 = u0 at *
              generalize C' k 1 = u1 at *
              generalize C' k 2 = u2 at *
              generalize C' k 3 = u3 at *
              have he := unhide HCE
              cases ce with
              | false =>
                obtain rfl : t = false := by rw [← unhide HT2, unhide HCF rfl]; simp
                go_wp2
                go_quiet (fail)
                go_wp2
                go_ret
                exact ⟨rfl, grown_drewN (unhide HG) _⟩
              | true =>
                have HFA : Hid (∀ W, wr.drew.grownBy W none → W.cell? ⟨w.heap.size, 4, none⟩ = some (.slice (some ⟨fb, foff, none⟩) n cap) ∧ W.cell? ⟨w.heap.size, 6, none⟩ = some (.slice (some ⟨rb, roff, none⟩) n cC) ∧ W.cell? ⟨w.heap.size + 1, 4, none⟩ = some (.slice (some ⟨jb, joff, none⟩) n cap') ∧ W.cell? ⟨w.heap.size + 1, 6, none⟩ = some (.slice (some ⟨ib, ioff, none⟩) n cC') ∧ W.cell? ⟨fb, foff + k * 4, none⟩ = some (.int .i64 v0) ∧ W.cell? ⟨fb, foff + k * 4 + 1, none⟩ = some (.int .i64 v1) ∧ W.cell? ⟨fb, foff + k * 4 + 2, none⟩ = some (.int .i64 v2) ∧ W.cell? ⟨fb, foff + k * 4 + 3, none⟩ = some (.int .i64 v3) ∧ W.cell? ⟨jb, joff + k * 4, none⟩ = some (.int .i64 u0) ∧ W.cell? ⟨jb, joff + k * 4 + 1, none⟩ = some (.int .i64 u1) ∧ W.cell? ⟨jb, joff + k * 4 + 2, none⟩ = some (.int .i64 u2) ∧ W.cell? ⟨jb, joff + k * 4 + 3, none⟩ = some (.int .i64 u3) ∧ W.cell? ⟨rb, roff + k, none⟩ = some u ∧ W.cell? ⟨ib, ioff + k, none⟩ = some u') := fun W g => ⟨g.cell (by exact z4) (by simp), g.cell (by exact z6) (by simp), g.cell (by exact r4) (by simp), g.cell (by exact r6) (by simp), g.cell (by exact x0) (by simp), g.cell (by exact x1) (by simp), g.cell (by exact x2) (by simp), g.cell (by exact x3) (by simp), g.cell (by exact y0) (by simp), g.cell (by exact y1) (by simp), g.cell (by exact y2) (by simp), g.cell (by exact y3) (by simp), g.cell (by exact a0) (by simp), g.cell (by exact c0) (by simp)⟩
                have GD := hide (grown_drew (World.grownBy.refl wr none))
                have HG1 := hide (grown_drew (unhide HG))
                have HB1 : Hid (wr.drew.heap[w.heap.size]? = some _) := HBX
                have HC1 : Hid (wr.drew.heap[w.heap.size + 1]? = some _) := HCX
                obtain ⟨y, HY2⟩ : ∃ y, Hid (decide (P1 = P2) = y) := ⟨_, rfl⟩
                go_wp2
                refine wp_region_noPanic ?_
                refine wp_region_tailL 20 (fun W => wr.drew.grownBy W none) [true, true, true, true, true, true, true, true, true, true, true, true, true, true, true, true, true, true, true, true, true, true, true, true, true, true, false, false, false] (by kernel_rfl) (fun _ _ _ _ _ h => h) rfl (by decide) (by kernel_rfl) (World.grownBy.refl _ _) ?_
                generalize wr.drew = W1 at *
                refine heldF_take (v := ?_) (Or.inl ⟨by rfl, ?_⟩) ?_
                rotate_left 1
                · intro w' hSw
                  obtain ⟨w_z4, w_z6, w_r4, w_r6, w_x0, w_x1, w_x2, w_x3, w_y0, w_y1, w_y2, w_y3, w_a0, w_c0⟩ := unhide HFA w' hSw
                  go_simp
                  try with_reducible rfl
                try simp only [Act.put, List.setIfInBounds_toArray, List.set_cons_zero, List.set_cons_succ]
                refine heldF_take (v := ?_) (Or.inl ⟨by rfl, ?_⟩) ?_
                rotate_left 1
                · intro w' hSw
                  obtain ⟨w_z4, w_z6, w_r4, w_r6, w_x0, w_x1, w_x2, w_x3, w_y0, w_y1, w_y2, w_y3, w_a0, w_c0⟩ := unhide HFA w' hSw
                  go_simp
                  try with_reducible rfl
                try simp only [Act.put, List.setIfInBounds_toArray, List.set_cons_zero, List.set_cons_succ]
                refine heldF_take (v := ?_) (Or.inl ⟨by rfl, ?_⟩) ?_
                rotate_left 1
                · intro w' hSw
                  obtain ⟨w_z4, w_z6, w_r4, w_r6, w_x0, w_x1, w_x2, w_x3, w_y0, w_y1, w_y2, w_y3, w_a0, w_c0⟩ := unhide HFA w' hSw
                  go_simp
                  try with_reducible rfl
                try simp only [Act.put, List.setIfInBounds_toArray, List.set_cons_zero, List.set_cons_succ]
                refine heldF_take (v := ?_) (Or.inl ⟨by rfl, ?_⟩) ?_
                rotate_left 1
                · intro w' hSw
                  obtain ⟨w_z4, w_z6, w_r4, w_r6, w_x0, w_x1, w_x2, w_x3, w_y0, w_y1, w_y2, w_y3, w_a0, w_c0⟩ := unhide HFA w' hSw
                  go_simp
                  try with_reducible rfl
                try simp only [Act.put, List.setIfInBounds_toArray, List.set_cons_zero, List.set_cons_succ]
                refine heldF_take (v := ?_) (Or.inl ⟨by rfl, ?_⟩) ?_
                rotate_left 1
                · intro w' hSw
                  obtain ⟨w_z4, w_z6, w_r4, w_r6, w_x0, w_x1, w_x2, w_x3, w_y0, w_y1, w_y2, w_y3, w_a0, w_c0⟩ := unhide HFA w' hSw
                  go_simp
                  try with_reducible rfl
                try simp only [Act.put, List.setIfInBounds_toArray, List.set_cons_zero, List.set_cons_succ]
                refine heldF_take (v := ?_) (Or.inl ⟨by rfl, ?_⟩) ?_
                rotate_left 1
                · intro w' hSw
                  obtain ⟨w_z4, w_z6, w_r4, w_r6, w_x0, w_x1, w_x2, w_x3, w_y0, w_y1, w_y2, w_y3, w_a0, w_c0⟩ := unhide HFA w' hSw
                  go_simp
                  try with_reducible rfl
                try simp only [Act.put, List.setIfInBounds_toArray, List.set_cons_zero, List.set_cons_succ]
                refine heldF_take (v := ?_) (Or.inl ⟨by rfl, ?_⟩) ?_
                rotate_left 1
                · intro w' hSw
                  obtain ⟨w_z4, w_z6, w_r4, w_r6, w_x0, w_x1, w_x2, w_x3, w_y0, w_y1, w_y2, w_y3, w_a0, w_c0⟩ := unhide HFA w' hSw
                  go_simp
                  try with_reducible rfl
                try simp only [Act.put, List.setIfInBounds_toArray, List.set_cons_zero, List.set_cons_succ]
                refine heldF_take (v := ?_) (Or.inl ⟨by rfl, ?_⟩) ?_
                rotate_left 1
                · intro w' hSw
                  obtain ⟨w_z4, w_z6, w_r4, w_r6, w_x0, w_x1, w_x2, w_x3, w_y0, w_y1, w_y2, w_y3, w_a0, w_c0⟩ := unhide HFA w' hSw
                  go_simp
                  try with_reducible rfl
                try simp only [Act.put, List.setIfInBounds_toArray, List.set_cons_zero, List.set_cons_succ]
                refine heldF_take (v := ?_) (Or.inl ⟨by rfl, ?_⟩) ?_
                rotate_left 1
                · intro w' hSw
                  obtain ⟨w_z4, w_z6, w_r4, w_r6, w_x0, w_x1, w_x2, w_x3, w_y0, w_y1, w_y2, w_y3, w_a0, w_c0⟩ := unhide HFA w' hSw
                  go_simp
                  try with_reducible rfl
                try simp only [Act.put, List.setIfInBounds_toArray, List.set_cons_zero, List.set_cons_succ]
                refine heldF_take (v := ?_) (Or.inl ⟨by rfl, ?_⟩) ?_
                rotate_left 1
                · intro w' hSw
                  obtain ⟨w_z4, w_z6, w_r4, w_r6, w_x0, w_x1, w_x2, w_x3, w_y0, w_y1, w_y2, w_y3, w_a0, w_c0⟩ := unhide HFA w' hSw
                  go_simp
                  try with_reducible rfl
                try simp only [Act.put, List.setIfInBounds_toArray, List.set_cons_zero, List.set_cons_succ]
                refine heldF_take (v := ?_) (Or.inl ⟨by rfl, ?_⟩) ?_
                rotate_left 1
                · intro w' hSw
                  obtain ⟨w_z4, w_z6, w_r4, w_r6, w_x0, w_x1, w_x2, w_x3, w_y0, w_y1, w_y2, w_y3, w_a0, w_c0⟩ := unhide HFA w' hSw
                  go_simp
                  try with_reducible rfl
                try simp only [Act.put, List.setIfInBounds_toArray, List.set_cons_zero, List.set_cons_succ]
                refine heldF_take (v := ?_) (Or.inl ⟨by rfl, ?_⟩) ?_
                rotate_left 1
                · intro w' hSw
                  obtain ⟨w_z4, w_z6, w_r4, w_r6, w_x0, w_x1, w_x2, w_x3, w_y0, w_y1, w_y2, w_y3, w_a0, w_c0⟩ := unhide HFA w' hSw
                  go_simp
                  try with_reducible rfl
                try simp only [Act.put, List.setIfInBounds_toArray, List.set_cons_zero, List.set_cons_succ]
                refine heldF_take (v := ?_) (Or.inl ⟨by rfl, ?_⟩) ?_
                rotate_left 1
                · intro w' hSw
                  obtain ⟨w_z4, w_z6, w_r4, w_r6, w_x0, w_x1, w_x2, w_x3, w_y0, w_y1, w_y2, w_y3, w_a0, w_c0⟩ := unhide HFA w' hSw
                  have he := unhide HCE w'
                  go_simp
                  try with_reducible rfl
                try simp only [Act.put, List.setIfInBounds_toArray, List.set_cons_zero, List.set_cons_succ]
                refine heldF_take (v := ?_) (Or.inl ⟨by rfl, ?_⟩) ?_
                rotate_left 1
                · intro w' hSw
                  obtain ⟨w_z4, w_z6, w_r4, w_r6, w_x0, w_x1, w_x2, w_x3, w_y0, w_y1, w_y2, w_y3, w_a0, w_c0⟩ := unhide HFA w' hSw
                  go_simp
                  try with_reducible rfl
                try simp only [Act.put, List.setIfInBounds_toArray, List.set_cons_zero, List.set_cons_succ]
                refine heldF_take (v := ?_) (Or.inl ⟨by rfl, ?_⟩) ?_
                rotate_left 1
                · intro w' hSw
                  obtain ⟨w_z4, w_z6, w_r4, w_r6, w_x0, w_x1, w_x2, w_x3, w_y0, w_y1, w_y2, w_y3, w_a0, w_c0⟩ := unhide HFA w' hSw
                  go_simp
                  try with_reducible rfl
                try simp only [Act.put, List.setIfInBounds_toArray, List.set_cons_zero, List.set_cons_succ]
                refine heldF_take (v := ?_) (Or.inl ⟨by rfl, ?_⟩) ?_
                rotate_left 1
                · intro w' hSw
                  obtain ⟨w_z4, w_z6, w_r4, w_r6, w_x0, w_x1, w_x2, w_x3, w_y0, w_y1, w_y2, w_y3, w_a0, w_c0⟩ := unhide HFA w' hSw
                  go_simp
                  try with_reducible rfl
                try simp only [Act.put, List.setIfInBounds_toArray, List.set_cons_zero, List.set_cons_succ]
                refine heldF_take (v := ?_) (Or.inl ⟨by rfl, ?_⟩) ?_
                rotate_left 1
                · intro w' hSw
                  obtain ⟨w_z4, w_z6, w_r4, w_r6, w_x0, w_x1, w_x2, w_x3, w_y0, w_y1, w_y2, w_y3, w_a0, w_c0⟩ := unhide HFA w' hSw
                  go_simp
                  try with_reducible rfl
                try simp only [Act.put, List.setIfInBounds_toArray, List.set_cons_zero, List.set_cons_succ]
                refine heldF_take (v := ?_) (Or.inl ⟨by rfl, ?_⟩) ?_
                rotate_left 1
                · intro w' hSw
                  obtain ⟨w_z4, w_z6, w_r4, w_r6, w_x0, w_x1, w_x2, w_x3, w_y0, w_y1, w_y2, w_y3, w_a0, w_c0⟩ := unhide HFA w' hSw
                  go_simp
                  try with_reducible rfl
                try simp only [Act.put, List.setIfInBounds_toArray, List.set_cons_zero, List.set_cons_succ]
                refine heldF_take (v := ?_) (Or.inl ⟨by rfl, ?_⟩) ?_
                rotate_left 1
                · intro w' hSw
                  obtain ⟨w_z4, w_z6, w_r4, w_r6, w_x0, w_x1, w_x2, w_x3, w_y0, w_y1, w_y2, w_y3, w_a0, w_c0⟩ := unhide HFA w' hSw
                  go_simp
                  try with_reducible rfl
                try simp only [Act.put, List.setIfInBounds_toArray, List.set_cons_zero, List.set_cons_succ]
                refine heldF_take (v := ?_) (Or.inl ⟨by rfl, ?_⟩) ?_
                rotate_left 1
                · intro w' hSw
                  obtain ⟨w_z4, w_z6, w_r4, w_r6, w_x0, w_x1, w_x2, w_x3, w_y0, w_y1, w_y2, w_y3, w_a0, w_c0⟩ := unhide HFA w' hSw
                  go_simp
                  try with_reducible rfl
                try simp only [Act.put, List.setIfInBounds_toArray, List.set_cons_zero, List.set_cons_succ]
                refine heldF_take (v := ?_) (Or.inl ⟨by rfl, ?_⟩) ?_
                rotate_left 1
                · intro w' hSw
                  obtain ⟨w_z4, w_z6, w_r4, w_r6, w_x0, w_x1, w_x2, w_x3, w_y0, w_y1, w_y2, w_y3, w_a0, w_c0⟩ := unhide HFA w' hSw
                  go_simp
                  try with_reducible rfl
                try simp only [Act.put, List.setIfInBounds_toArray, List.set_cons_zero, List.set_cons_succ]
                refine heldF_take (v := ?_) (Or.inl ⟨by rfl, ?_⟩) ?_
                rotate_left 1
                · intro w' hSw
                  obtain ⟨w_z4, w_z6, w_r4, w_r6, w_x0, w_x1, w_x2, w_x3, w_y0, w_y1, w_y2, w_y3, w_a0, w_c0⟩ := unhide HFA w' hSw
                  go_simp
                  try with_reducible rfl
                try simp only [Act.put, List.setIfInBounds_toArray, List.set_cons_zero, List.set_cons_succ]
                refine heldF_take (v := ?_) (Or.inl ⟨by rfl, ?_⟩) ?_
                rotate_left 1
                · intro w' hSw
                  obtain ⟨w_z4, w_z6, w_r4, w_r6, w_x0, w_x1, w_x2, w_x3, w_y0, w_y1, w_y2, w_y3, w_a0, w_c0⟩ := unhide HFA w' hSw
                  go_simp
                  try with_reducible rfl
                try simp only [Act.put, List.setIfInBounds_toArray, List.set_cons_zero, List.set_cons_succ]
                refine heldF_take (v := ?_) (Or.inl ⟨by rfl, ?_⟩) ?_
                rotate_left 1
                · intro w' hSw
                  obtain ⟨w_z4, w_z6, w_r4, w_r6, w_x0, w_x1, w_x2, w_x3, w_y0, w_y1, w_y2, w_y3, w_a0, w_c0⟩ := unhide HFA w' hSw
                  go_simp
                  try with_reducible rfl
                try simp only [Act.put, List.setIfInBounds_toArray, List.set_cons_zero, List.set_cons_succ]
                refine heldF_take (v := ?_) (Or.inl ⟨by rfl, ?_⟩) ?_
                rotate_left 1
                · intro w' hSw
                  obtain ⟨w_z4, w_z6, w_r4, w_r6, w_x0, w_x1, w_x2, w_x3, w_y0, w_y1, w_y2, w_y3, w_a0, w_c0⟩ := unhide HFA w' hSw
                  go_simp
                  try with_reducible rfl
                try simp only [Act.put, List.setIfInBounds_toArray, List.set_cons_zero, List.set_cons_succ]
                refine heldF_take (v := ?_) (Or.inl ⟨by rfl, ?_⟩) ?_
                rotate_left 1
                · intro w' hSw
                  obtain ⟨w_z4, w_z6, w_r4, w_r6, w_x0, w_x1, w_x2, w_x3, w_y0, w_y1, w_y2, w_y3, w_a0, w_c0⟩ := unhide HFA w' hSw
                  go_simp
                  try with_reducible rfl
                try simp only [Act.put, List.setIfInBounds_toArray, List.set_cons_zero, List.set_cons_succ]
                refine heldF_skip ?_
                refine heldF_skip ?_
                refine heldF_skip ?_
                refine heldF_nil ?_
                refine tailL_skip ?_
                refine tailL_skip ?_
                refine tailL_skip ?_
                refine tailL_skip ?_
                refine tailL_skip ?_
                refine tailL_skip ?_
                refine tailL_skip ?_
                refine tailL_skip ?_
                refine tailL_skip ?_
                refine tailL_skip ?_
                refine tailL_skip ?_
                refine tailL_skip ?_
                refine tailL_skip ?_
                refine tailL_skip ?_
                refine tailL_skip ?_
                refine tailL_skip ?_
                refine tailL_skip ?_
                refine tailL_skip ?_
                refine tailL_skip ?_
                refine tailL_skip ?_
                refine tailL_skip ?_
                refine tailL_skip ?_
                refine tailL_skip ?_
                refine tailL_skip ?_
                refine tailL_skip ?_
                refine tailL_skip ?_
                refine tailL_step (fun K hK => ?_)
                go_simp
                refine (specLists19 u u' P1 P2 W1 (RdR.st (RdI.st .i64) _ _ _ _ (unhide HQ0) (unhide GD)) (RdR.st (RdI.st .i64) _ _ _ _ (unhide HQ1) (unhide GD)) (unhide HSK) y HY2).mono ?_
                rintro e w9 ⟨rfl, g9⟩
                have HG9 := hide (grown_trans (unhide HG1) g9)
                have HB9 := hide (grown_atT g9 (unhide HB1) (by simp))
                have HC9 := hide (grown_atT g9 (unhide HC1) (by simp))
                have H9 := hide g9
                clear g9
                go_simp
                refine hK.out _ _ (.inr (unhide H9)) ?_
                clear hK K
                try simp only [Act.put, List.setIfInBounds_toArray, List.set_cons_zero, List.set_cons_succ]
                refine tailL_step (fun K hK => ?_)
                go_simp
                refine hK.out _ _ (.inr (unhide H9)) ?_
                clear hK K
                try simp only [Act.put, List.setIfInBounds_toArray, List.set_cons_zero, List.set_cons_succ]
                refine tailL_step (fun K hK => ?_)
                go_simp
                refine hK.out _ _ (.inl rfl) ?_
                clear hK K
                refine tailL_nil (NoPanic.normal ?_)
                try simp only [Act.put]
                clear z4 z6 r4 r6 x0 x1 x2 x3 y0 y1 y2 y3 a0 c0 he
                obtain ⟨z0, z1, z2, z3, z4, z5, z6, z7, z8, z9⟩ := cells10 (unhide HB9)
                obtain ⟨r0, r1, r2, r3, r4, r5, r6, r7, r8, r9⟩ := cells10 (unhide HC9)
                cases y with
                | false =>
                  obtain rfl : t = false := by rw [← unhide HT2, unhide HNE (of_decide_eq_false (unhide HY2))]; simp
                  go_wp2
                  go_ret
                  exact ⟨rfl, unhide HG9⟩
                | true =>
                  have HT1 := hide (unhide HEQ (of_decide_eq_true (unhide HY2)))
                  have HC2 : Hid (∀ i, i < k + 1 → compEq (C i) (C' i) = true) := (by first | exact unhide HCN rfl | exact unhide HCN trivial | exact unhide HCN)
                  go_wp2
                  go_roundw
                  case rel => exact ⟨k + 1, by omega, by go_num, HC2, HT1, HG9, HB9, HC9⟩
                  case measure => simp [intOf]; omega
            · obtain rfl : k = n := by omega
              obtain rfl : t = true := by
                rw [← unhide HT2, ← unhide HFR2, ← unhide HXB]
                simp only [Bool.and_eq_true, decide_eq_true_iff]
                exact ⟨unhide HCK, all_same (unhide HNX) (unhide HNX') (unhide HTK)⟩
              go_wp2
              go_ret
              exact ⟨rfl, unhide HG⟩

end Go.Proofs.YtjkokbijnaodnaaGreat

namespace Go.Proofs.YtjkokbijnaodnaaGreat
open Go.RowKit

set_option maxRecDepth 20000 in
set_option maxHeartbeats 1600000 in
theorem szStreamL (p wd ht rs md : Int) (ao : Option Addr) (n cap : Nat) (vt : Value) (T : List (List Int)) (vc : Value) (X : List (List (List Int))) (vs : Value) (S : List Scn) (no : Option Addr) (nn nc : Nat) (w : World) (hn : n ≤ maxLen) (hT : RdZ (RdR (RdZ (RdI .i64))) w vt T) (hX : RdCz w (.agg #[vc]) X) (hS : RdSsZ w vs S) (hnn : nn ≤ maxLen) (l0 : Nat) (hl0 : l0 ≤ 1048576) :
    Calls Tryz.prog 4 #[.agg #[.int .i64 p, .int .i64 wd, .int .i64 ht, .int .i64 rs, .slice ao n cap, vt, vc, .int .i64 md, vs, .slice no nn nc], .int .i64 (l0 : Int)] w fun e w' => ∃ r : Int, e = .returned (.int .i64 r) ∧ r ≤ 1048576 ∧ (0 ≤ r → Sz15 n T X S nn) ∧ w.grownBy w' none := by
  unfold maxLen at hn hnn
  have s1 : StR (RdZ (RdI .i64)) := fun _ _ _ _ h g => ⟨RdI.st .i64 _ _ _ _ h.1 g, h.2⟩
  have s2 : StR (RdZ (RdR (RdZ (RdI .i64)))) := fun _ _ _ _ h g => ⟨RdR.st s1 _ _ _ _ h.1 g, h.2⟩
  have s3 : StR (RdZ (RdR (RdZ (RdR (RdZ (RdI .i64)))))) := fun _ _ _ _ h g => ⟨RdR.st s2 _ _ _ _ h.1 g, h.2⟩
  have S2 := hide s2
  have HXS : Hid (∀ W, w.grownBy W none → RdCz W (.agg #[vc]) X) := fun W g => by
    obtain ⟨v, e, h⟩ := hX
    exact ⟨v, e, s3 _ _ _ _ h g⟩
  have HT := hide hT
  have HS := hide hS
  obtain ⟨tO, tC, rfl⟩ : ∃ a c, vt = .slice a T.length c := by obtain ⟨a, c, e, _⟩ := hT.1; exact ⟨a, c, e⟩
  obtain ⟨cO, cC, rfl⟩ : ∃ a c, vc = .slice a X.length c := by
    obtain ⟨v, e, h⟩ := hX
    obtain ⟨a, c, e2, _⟩ := h.1
    have e3 : vc = v := by simpa using e
    exact ⟨a, c, e3.trans e2⟩
  obtain ⟨sO, sC, rfl⟩ : ∃ a c, vs = .slice a S.length c := by obtain ⟨a, c, e, _⟩ := hS.1; exact ⟨a, c, e⟩
  obtain ⟨tn, HTN⟩ : ∃ m, Hid (T.length = m) := ⟨_, rfl⟩
  obtain ⟨cn, HCN⟩ : ∃ m, Hid (X.length = m) := ⟨_, rfl⟩
  obtain ⟨sn, HSN⟩ : ∃ m, Hid (S.length = m) := ⟨_, rfl⟩
  rw [unhide HTN] at HT ⊢
  rw [unhide HCN] at HXS ⊢
  rw [unhide HSN] at HS ⊢
  clear s1 s2 s3 hT hX hS
  obtain ⟨W1, HW1⟩ : ∃ W1, Hid (w.alloc (.cells #[.int .i64 p, .int .i64 wd, .int .i64 ht, .int .i64 rs, .slice ao n cap, .slice tO tn tC, .slice cO cn cC, .int .i64 md, .slice sO sn sC, .slice no nn nc] 32) = W1) := ⟨_, rfl⟩
  have HB1 : Hid (W1.heap[w.heap.size]? = some (.cells #[.int .i64 p, .int .i64 wd, .int .i64 ht, .int .i64 rs, .slice ao n cap, .slice tO tn tC, .slice cO cn cC, .int .i64 md, .slice sO sn sC, .slice no nn nc] 32 (0, 0))) := by rw [← unhide HW1]; exact heap_alloc_new w _
  have HG1 : Hid (w.grownBy W1 none) := by rw [← unhide HW1]; exact World.grownBy_alloc _ _ _
  obtain ⟨r1, HR1⟩ : ∃ r : Int, Hid ((if (n : Int) ≤ (l0 : Int) then (l0 : Int) - (n : Int) else -1) = r) := ⟨_, rfl⟩
  go_enter Tryz.func4, Tryz.ntmps4
  go_wp2_with fail
  rw [unhide HW1]
  refine (szFrame p wd ht rs ao n cap (l0 : Int) r1 W1 (by omega) (by omega) (by omega) HR1).mono ?_
  rintro e w1 ⟨rfl, g1⟩
  have HG2 := hide (grown_trans (unhide HG1) g1)
  have HB2 := hide (grown_atT g1 (unhide HB1) (by simp))
  clear g1 HW1 HB1 HG1
  by_cases h1 : r1 < 0
  · have d1 : decide (r1 < 0) = true := decide_eq_true h1
    go_wp2
    go_ret
    exact ⟨-1, rfl, by omega, fun h => absurd h (by omega), unhide HG2⟩
  have hn1 : (n : Int) ≤ (l0 : Int) := by
    by_cases h : (n : Int) ≤ (l0 : Int)
    · exact h
    · have := unhide HR1; rw [if_neg h] at this; omega
  obtain ⟨l1, rfl⟩ := Int.eq_ofNat_of_zero_le (Int.not_lt.1 h1)
  have hl1 : l1 ≤ 1048576 := by have := unhide HR1; rw [if_pos hn1] at this; omega
  have d1 : decide ((l1 : Int) < 0) = false := decide_eq_false h1
  obtain ⟨c0, c1, c2, c3, c4, c5, c6, c7, c8, c9⟩ := cells10 (unhide HB2)
  go_wp2_with fail
  refine (szIntSSC w1 _ T l1 (unhide S2 _ _ _ _ (unhide HT) (unhide HG2)) hl1).mono ?_
  rintro e w2 ⟨rfl, rfl⟩
  by_cases h2' : l1 < szR lenI T
  · rw [if_neg (by omega)]
    go_wp2
    go_ret
    exact ⟨-1, rfl, by omega, fun h => absurd h (by omega), unhide HG2⟩
  have h2 : szR lenI T ≤ l1 := by omega
  rw [if_pos h2]
  obtain ⟨l2, HL2⟩ : ∃ l2 : Nat, Hid ((l1 : Int) - (szR lenI T : Nat) = (l2 : Int)) := ⟨l1 - szR lenI T, by unfold Hid; omega⟩
  rw [unhide HL2]
  have d2 : decide ((l2 : Int) < 0) = false := decide_eq_false (by omega)
  have hl2 : l2 ≤ 1048576 := by have := unhide HL2; omega
  obtain ⟨r3, HR3⟩ : ∃ r : Int, Hid ((if szCo X ≤ l2 then (l2 : Int) - szCo X else -1) = r) := ⟨_, rfl⟩
  go_wp2_with fail
  refine (szCoefsC w2 _ X l2 (unhide HXS _ (unhide HG2)) hl2 r3 HR3).mono ?_
  rintro e w3 ⟨rfl, g3⟩
  have HG3 := hide (grown_trans (unhide HG2) g3)
  have HB3 := hide (grown_atT g3 (unhide HB2) (by simp))
  clear g3 HB2 HG2 c0 c1 c2 c3 c4 c5 c6 c7 c8 c9
  by_cases h3 : r3 < 0
  · have d3 : decide (r3 < 0) = true := decide_eq_true h3
    go_wp2
    go_ret
    exact ⟨-1, rfl, by omega, fun h => absurd h (by omega), unhide HG3⟩
  have hx3 : szCo X ≤ l2 := by
    by_cases h : szCo X ≤ l2
    · exact h
    · have := unhide HR3; rw [if_neg h] at this; omega
  obtain ⟨l3, rfl⟩ := Int.eq_ofNat_of_zero_le (Int.not_lt.1 h3)
  have hl3 : l3 ≤ 1048576 := by have := unhide HR3; rw [if_pos hx3] at this; omega
  have d3 : decide ((l3 : Int) < 0) = false := decide_eq_false h3
  obtain ⟨c0, c1, c2, c3, c4, c5, c6, c7, c8, c9⟩ := cells10 (unhide HB3)
  obtain ⟨r4, HR4⟩ : ∃ r : Int, Hid ((if szR szSc S ≤ l3 then (l3 : Int) - szR szSc S else -1) = r) := ⟨_, rfl⟩
  go_wp2_with fail
  refine (szScanSC w3 _ S l3 ((unhide HS).st (unhide HG3)) hl3 r4 HR4).mono ?_
  rintro e w4 ⟨rfl, g4⟩
  have HG4 := hide (grown_trans (unhide HG3) g4)
  have HB4 := hide (grown_atT g4 (unhide HB3) (by simp))
  clear g4 HB3 HG3 c0 c1 c2 c3 c4 c5 c6 c7 c8 c9
  by_cases h4 : r4 < 0
  · have d4 : decide (r4 < 0) = true := decide_eq_true h4
    go_wp2
    go_ret
    exact ⟨-1, rfl, by omega, fun h => absurd h (by omega), unhide HG4⟩
  have hx4 : szR szSc S ≤ l3 := by
    by_cases h : szR szSc S ≤ l3
    · exact h
    · have := unhide HR4; rw [if_neg h] at this; omega
  have hl4 : r4 ≤ 1048576 := by have := unhide HR4; rw [if_pos hx4] at this; omega
  have d4 : decide (r4 < 0) = false := decide_eq_false h4
  obtain ⟨c0, c1, c2, c3, c4, c5, c6, c7, c8, c9⟩ := cells10 (unhide HB4)
  obtain ⟨r5, HR5⟩ : ∃ r : Int, Hid ((if (nn : Int) ≤ r4 then r4 - (nn : Int) else -1) = r) := ⟨_, rfl⟩
  go_wp2_with fail
  refine (szByteS no nn nc r4 r5 w4 (by omega) hl4 (by omega) HR5).mono ?_
  rintro e w5 ⟨rfl, rfl⟩
  by_cases h5 : r5 < 0
  · have d5 : decide (r5 < 0) = true := decide_eq_true h5
    go_wp2
    go_ret
    exact ⟨-1, rfl, by omega, fun h => absurd h (by omega), unhide HG4⟩
  have hx5 : (nn : Int) ≤ r4 := by
    by_cases h : (nn : Int) ≤ r4
    · exact h
    · have := unhide HR5; rw [if_neg h] at this; omega
  have d5 : decide (r5 < 0) = false := decide_eq_false h5
  go_wp2
  go_ret
  exact ⟨r5, rfl, by (have := unhide HR5; rw [if_pos hx5] at this; omega), fun _ => ⟨by omega, by omega, by omega, by omega, by omega⟩, unhide HG4⟩

end Go.Proofs.YtjkokbijnaodnaaGreat

namespace Go.Proofs.YtjkokbijnaodnaaGreat
open Go.RowKit

/-- What came in, in its boxes. -/
structure InS2 (w W : World) (ax bx : Array Value) : Prop where
  ab : W.heap[w.heap.size]? = some (.cells ax 32 (0, 0))
  bb : W.heap[w.heap.size + 1]? = some (.cells bx 32 (0, 0))
  grown : w.grownBy W none
theorem InS2.new {w W W' : World} {ax bx : Array Value} (h : InS2 w W ax bx) (g : W.grownBy W' none) : InS2 w W' ax bx := ⟨grown_atT g h.ab (by simp), grown_atT g h.bb (by simp), grown_trans h.grown g⟩
theorem InS2.start (w : World) (ax bx : Array Value) : InS2 w ((w.alloc (.cells ax 32)).alloc (.cells bx 32)) ax bx := by
  refine ⟨?_, ?_, grown_alloc (World.grownBy_alloc _ _ _) _⟩
  · rw [Below.heap_alloc _ _ _ (by simp)]
    exact heap_alloc_new w _
  · have := heap_alloc_new (w.alloc (.cells ax 32)) (.cells bx 32)
    simpa using this

set_option maxRecDepth 20000 in
set_option maxHeartbeats 6400000 in
theorem lawSameStream (p wd ht rs md : Int) (ao : Option Addr) (n cap : Nat) (C : Nat → Nat → Int) (vt : Value) (T : List (List Int)) (vc : Value) (X : List (List (List Int))) (vs : Value) (S : List Scn) (no : Option Addr) (nn nc : Nat) (zs : List Int) (w : World) (h : RdSt w ao n C vt T vc X vs S no nn zs) (hn : n ≤ maxLen) (hT : RdZ (RdR (RdZ (RdI .i64))) w vt T) (hX : RdCz w (.agg #[vc]) X) (hS : RdSsZ w vs S) (hnn : nn ≤ maxLen) (hby : ∀ x ∈ zs, 0 ≤ x ∧ x < 256)
    (p' wd' ht' rs' md' : Int) (ao' : Option Addr) (n' cap' : Nat) (C' : Nat → Nat → Int) (vt' : Value) (T' : List (List Int)) (vc' : Value) (X' : List (List (List Int))) (vs' : Value) (S' : List Scn) (no' : Option Addr) (nn' nc' : Nat) (zs' : List Int) (h' : RdSt w ao' n' C' vt' T' vc' X' vs' S' no' nn' zs') (hn' : n' ≤ maxLen) (hT' : RdZ (RdR (RdZ (RdI .i64))) w vt' T') (hX' : RdCz w (.agg #[vc']) X') (hS' : RdSsZ w vs' S') (hnn' : nn' ≤ maxLen) (hby' : ∀ x ∈ zs', 0 ≤ x ∧ x < 256) :
    Calls Tryz.prog 3 #[.agg #[.int .i64 p, .int .i64 wd, .int .i64 ht, .int .i64 rs, .slice ao n cap, vt, vc, .int .i64 md, vs, .slice no nn nc], .agg #[.int .i64 p', .int .i64 wd', .int .i64 ht', .int .i64 rs', .slice ao' n' cap', vt', vc', .int .i64 md', vs', .slice no' nn' nc']] w fun e w' => e = .returned (.bool true) ∧ Below w.heap.size w w' := by
  have HRD := hide h
  have H1 := hide hT
  have H2 := hide hX
  have H3 := hide hS
  have HRD' := hide h'
  have H1' := hide hT'
  have H2' := hide hX'
  have H3' := hide hS'
  have HY := hide hby
  have HY' := hide hby'
  obtain ⟨tO, tN, tC, rfl⟩ : ∃ a n c, vt = .slice a n c := by obtain ⟨a, c, e, _⟩ := h.tb; exact ⟨a, _, c, e⟩
  obtain ⟨cO, cN, cC, rfl⟩ : ∃ a n c, vc = .slice a n c := by obtain ⟨a, c, e, _⟩ := h.co; exact ⟨a, _, c, e⟩
  obtain ⟨sO, sN, sC, rfl⟩ : ∃ a n c, vs = .slice a n c := by obtain ⟨a, c, e, _⟩ := h.sc; exact ⟨a, _, c, e⟩
  obtain ⟨tO', tN', tC', rfl⟩ : ∃ a n c, vt' = .slice a n c := by obtain ⟨a, c, e, _⟩ := h'.tb; exact ⟨a, _, c, e⟩
  obtain ⟨cO', cN', cC', rfl⟩ : ∃ a n c, vc' = .slice a n c := by obtain ⟨a, c, e, _⟩ := h'.co; exact ⟨a, _, c, e⟩
  obtain ⟨sO', sN', sC', rfl⟩ : ∃ a n c, vs' = .slice a n c := by obtain ⟨a, c, e, _⟩ := h'.sc; exact ⟨a, _, c, e⟩
  obtain ⟨b, HB⟩ : ∃ b, Hid (streamB p wd ht rs md n C T X S nn = b) := ⟨_, rfl⟩
  obtain ⟨b', HB'⟩ : ∃ b, Hid (streamB p' wd' ht' rs' md' n' C' T' X' S' nn' = b) := ⟨_, rfl⟩
  obtain ⟨t, HTT⟩ : ∃ t, Hid ((b && b' && (sameFr p wd ht n C p' wd' ht' n' C' && decide (T = T') && decide (zs = zs') && decide (X = X'))) = t) := ⟨_, rfl⟩
  have hbb : (t != t) = false := by simp
  clear h hT hX hS hby h' hT' hX' hS' hby'
  obtain ⟨W0, HW0⟩ : ∃ W0, Hid ((w.alloc (.cells #[.int .i64 p, .int .i64 wd, .int .i64 ht, .int .i64 rs, .slice ao n cap, .slice tO tN tC, .slice cO cN cC, .int .i64 md, .slice sO sN sC, .slice no nn nc] 32)).alloc (.cells #[.int .i64 p', .int .i64 wd', .int .i64 ht', .int .i64 rs', .slice ao' n' cap', .slice tO' tN' tC', .slice cO' cN' cC', .int .i64 md', .slice sO' sN' sC', .slice no' nn' nc'] 32) = W0) := ⟨_, rfl⟩
  have I0 : Hid (InS2 w W0 #[.int .i64 p, .int .i64 wd, .int .i64 ht, .int .i64 rs, .slice ao n cap, .slice tO tN tC, .slice cO cN cC, .int .i64 md, .slice sO sN sC, .slice no nn nc] #[.int .i64 p', .int .i64 wd', .int .i64 ht', .int .i64 rs', .slice ao' n' cap', .slice tO' tN' tC', .slice cO' cN' cC', .int .i64 md', .slice sO' sN' sC', .slice no' nn' nc']) := by rw [← unhide HW0]; exact InS2.start w _ _
  have s1 : StR (RdZ (RdI .i64)) := fun _ _ _ _ h g => ⟨RdI.st .i64 _ _ _ _ h.1 g, h.2⟩
  have s2 : StR (RdZ (RdR (RdZ (RdI .i64)))) := fun _ _ _ _ h g => ⟨RdR.st s1 _ _ _ _ h.1 g, h.2⟩
  have s3 : StR (RdZ (RdR (RdZ (RdR (RdZ (RdI .i64)))))) := fun _ _ _ _ h g => ⟨RdR.st s2 _ _ _ _ h.1 g, h.2⟩
  have HC := hide (fun W (g : w.grownBy W none) => szStreamL p wd ht rs md ao n cap _ T _ X _ S no nn nc W hn (s2 _ _ _ _ (unhide H1) g) (by obtain ⟨v, e, h⟩ := unhide H2; exact ⟨v, e, s3 _ _ _ _ h g⟩) ((unhide H3).st g) hnn)
  have HC' := hide (fun W (g : w.grownBy W none) => szStreamL p' wd' ht' rs' md' ao' n' cap' _ T' _ X' _ S' no' nn' nc' W hn' (s2 _ _ _ _ (unhide H1') g) (by obtain ⟨v, e, h⟩ := unhide H2'; exact ⟨v, e, s3 _ _ _ _ h g⟩) ((unhide H3').st g) hnn')
  clear s1 s2 s3 H1 H2 H3 H1' H2' H3' hn hnn hn' hnn'
  go_enter Tryz.func3, Tryz.ntmps3
  go_wp2_with fail
  rw [unhide HW0]
  clear HW0
  have hb0 := (unhide I0).ab
  go_wp2_with (refine load_row rfl 32 _ rfl (w.heap.size) rfl #[.int .i64 p, .int .i64 wd, .int .i64 ht, .int .i64 rs, .slice ao n cap, .slice tO tN tC, .slice cO cN cC, .int .i64 md, .slice sO sN sC, .slice no nn nc] 32 hb0 _ Tryz.underlying32 rfl (by kernel_rfl) ?_)
  refine (unhide HC W0 (unhide I0).grown 1048576 (Nat.le_refl _)).mono ?_
  rintro e w1 ⟨r, rfl, hr1, hz, g1⟩
  have I1 := hide ((unhide I0).new g1)
  have HZ0 := hide hz
  clear hb0 HC g1 I0 hz
  by_cases hr : r < 0
  · have d1 : decide (r < 0) = true := decide_eq_true hr
    go_wp2
    go_ret
    exact ⟨rfl, grown_below (unhide I1).grown⟩
  have HZ : Hid (Sz15 n T X S nn) := unhide HZ0 (by omega)
  have d1 : decide (r < 0) = false := decide_eq_false hr
  obtain ⟨l1, rfl⟩ := Int.eq_ofNat_of_zero_le (Int.not_lt.1 hr)
  clear HZ0
  have hb1 := (unhide I1).bb
  go_wp2_with (refine load_row rfl 32 _ rfl (w.heap.size + 1) rfl #[.int .i64 p', .int .i64 wd', .int .i64 ht', .int .i64 rs', .slice ao' n' cap', .slice tO' tN' tC', .slice cO' cN' cC', .int .i64 md', .slice sO' sN' sC', .slice no' nn' nc'] 32 hb1 _ Tryz.underlying32 rfl (by kernel_rfl) ?_)
  refine (unhide HC' w1 (unhide I1).grown l1 (by omega)).mono ?_
  rintro e w2 ⟨r2, rfl, hr2, hz, g2⟩
  have I2 := hide ((unhide I1).new g2)
  have HZ0 := hide hz
  clear hb1 HC' g2 I1 hz
  by_cases hq : r2 < 0
  · have d2 : decide (r2 < 0) = true := decide_eq_true hq
    go_wp2
    go_ret
    exact ⟨rfl, grown_below (unhide I2).grown⟩
  have HZ' : Hid (Sz15 n' T' X' S' nn') := unhide HZ0 (by omega)
  have d2 : decide (r2 < 0) = false := decide_eq_false hq
  clear HZ0
  go_wp2
  have I3 := hide ((unhide I2).new (grown_drew (World.grownBy.refl w2 none)))
  clear I2
  refine wp_region_noPanic ?_
  refine wp_region_tailL 20 (fun W => InS2 w W #[.int .i64 p, .int .i64 wd, .int .i64 ht, .int .i64 rs, .slice ao n cap, .slice tO tN tC, .slice cO cN cC, .int .i64 md, .slice sO sN sC, .slice no nn nc] #[.int .i64 p', .int .i64 wd', .int .i64 ht', .int .i64 rs', .slice ao' n' cap', .slice tO' tN' tC', .slice cO' cN' cC', .int .i64 md', .slice sO' sN' sC', .slice no' nn' nc']) [true, false, true, false, false, false] (by kernel_rfl) (fun _ _ _ _ _ h => h) rfl (by decide) (by kernel_rfl) (unhide I3) ?_
  generalize w2.drew = w3 at *
  refine heldF_take (v := ?_) (Or.inl ⟨by rfl, ?_⟩) ?_
  rotate_left 1
  · intro w' hSw
    have s1 := cells10 hSw.ab
    go_simp
    try with_reducible rfl
  try simp only [Act.put, List.setIfInBounds_toArray, List.set_cons_zero, List.set_cons_succ]
  refine heldF_skip ?_
  refine heldF_take (v := ?_) (Or.inl ⟨by rfl, ?_⟩) ?_
  rotate_left 1
  · intro w' hSw
    have s1 := cells10 hSw.bb
    go_simp
    try with_reducible rfl
  try simp only [Act.put, List.setIfInBounds_toArray, List.set_cons_zero, List.set_cons_succ]
  refine heldF_skip ?_
  refine heldF_skip ?_
  refine heldF_skip ?_
  refine heldF_nil ?_
  refine tailL_skip ?_
  refine tailL_step (fun K hK => ?_)
  go_simp
  refine (toStream p wd ht rs md ao n cap C _ T _ X _ S no nn nc zs w3 ((unhide HRD).st (unhide I3).grown) (unhide HZ)).mono ?_
  rintro e w4 ⟨ao2, cap2, vt2, vc2, vs2, no2, nc2, rfl, r2, g4⟩
  have I4 := hide ((unhide I3).new g4)
  have R4 := hide r2
  clear I3 g4 r2
  go_simp
  refine hK.out _ _ (.inr (unhide I4)) ?_
  clear hK K
  try simp only [Act.put, List.setIfInBounds_toArray, List.set_cons_zero, List.set_cons_succ]
  refine tailL_skip ?_
  refine tailL_step (fun K hK => ?_)
  go_simp
  refine (toStream p' wd' ht' rs' md' ao' n' cap' C' _ T' _ X' _ S' no' nn' nc' zs' w4 ((unhide HRD').st (unhide I4).grown) (unhide HZ')).mono ?_
  rintro e w5 ⟨ao3, cap3, vt3, vc3, vs3, no3, nc3, rfl, r3, g5⟩
  have I5 := hide ((unhide I4).new g5)
  have R5 := hide ((unhide R4).st g5)
  have Q5 := hide r3
  clear I4 R4 g5 r3
  go_simp
  refine hK.out _ _ (.inr (unhide I5)) ?_
  clear hK K
  try simp only [Act.put, List.setIfInBounds_toArray, List.set_cons_zero, List.set_cons_succ]
  refine tailL_step (fun K hK => ?_)
  go_simp
  refine (specSameStream p wd ht rs md ao2 n cap2 C _ T _ X _ S no2 nn nc2 zs p' wd' ht' rs' md' ao3 n' cap3 C' _ T' _ X' _ S' no3 nn' nc3 zs' w5 (unhide R5) (unhide HZ) (unhide Q5) (unhide HZ') (unhide HY) (unhide HY') b HB b' HB' t HTT).mono ?_
  rintro e w6 ⟨rfl, g6⟩
  have I6 := hide ((unhide I5).new g6)
  clear I5 R5 Q5 g6
  go_simp
  refine hK.out _ _ (.inr (unhide I6)) ?_
  clear hK K
  try simp only [Act.put, List.setIfInBounds_toArray, List.set_cons_zero, List.set_cons_succ]
  refine tailL_step (fun K hK => ?_)
  go_simp
  refine hK.out _ _ (.inl rfl) ?_
  clear hK K
  refine tailL_nil (NoPanic.normal ?_)
  try simp only [Act.put]
  have hb := (unhide I6).ab
  go_wp2_with (refine load_row rfl 32 _ rfl (w.heap.size) rfl #[.int .i64 p, .int .i64 wd, .int .i64 ht, .int .i64 rs, .slice ao n cap, .slice tO tN tC, .slice cO cN cC, .int .i64 md, .slice sO sN sC, .slice no nn nc] 32 hb _ Tryz.underlying32 rfl (by kernel_rfl) ?_)
  refine (toStream p wd ht rs md ao n cap C _ T _ X _ S no nn nc zs w6 ((unhide HRD).st (unhide I6).grown) (unhide HZ)).mono ?_
  rintro e w7 ⟨ao7, cap7, vt7, vc7, vs7, no7, nc7, rfl, rr, gg⟩
  obtain ⟨t7, tn7, tc7, rfl⟩ : ∃ a n c, vt7 = .slice a n c := by obtain ⟨a, c, e, _⟩ := rr.tb; exact ⟨a, _, c, e⟩
  obtain ⟨c7, cn7, cc7, rfl⟩ : ∃ a n c, vc7 = .slice a n c := by obtain ⟨a, c, e, _⟩ := rr.co; exact ⟨a, _, c, e⟩
  obtain ⟨s7, sn7, sc7, rfl⟩ : ∃ a n c, vs7 = .slice a n c := by obtain ⟨a, c, e, _⟩ := rr.sc; exact ⟨a, _, c, e⟩
  have I7 := hide ((unhide I6).new gg)
  have R7 := hide rr
  clear hb I6 gg rr
  have ha := heap_alloc_new w7 (.cells #[.int .i64 0, .int .i64 0, .int .i64 0, .int .i64 0, .slice none 0 0, .slice none 0 0, .slice none 0 0, .int .i64 0, .slice none 0 0, .slice none 0 0] 41)
  have HGA := hide (World.grownBy_alloc w7 (.cells #[.int .i64 0, .int .i64 0, .int .i64 0, .int .i64 0, .slice none 0 0, .slice none 0 0, .slice none 0 0, .int .i64 0, .slice none 0 0, .slice none 0 0] 41) none)
  go_wp2_with (refine store_row rfl 41 _ _ rfl w7.heap.size rfl #[.int .i64 p, .int .i64 wd, .int .i64 ht, .int .i64 rs, .slice ao7 n cap7, .slice t7 tn7 tc7, .slice c7 cn7 cc7, .int .i64 md, .slice s7 sn7 sc7, .slice no7 nn nc7] rfl #[.int .i64 0, .int .i64 0, .int .i64 0, .int .i64 0, .slice none 0 0, .slice none 0 0, .slice none 0 0, .int .i64 0, .slice none 0 0, .slice none 0 0] 41 ha rfl (by kernel_rfl) (by simp [Value.oneCell']) ?_)
  intro w8 hbx gx
  have G8 := grown_new (unhide HGA) gx (fun x e => by have := Option.some.inj e; omega)
  have I8 := hide ((unhide I7).new G8)
  have R8 := hide ((unhide R7).st G8)
  have HX7 : Hid (w8.heap[w7.heap.size]? = some (.cells #[.int .i64 p, .int .i64 wd, .int .i64 ht, .int .i64 rs, .slice ao7 n cap7, .slice t7 tn7 tc7, .slice c7 cn7 cc7, .int .i64 md, .slice s7 sn7 sc7, .slice no7 nn nc7] 41 (0, 0))) := hbx
  clear ha HGA G8 gx hbx I7 R7
  have hb := (unhide I8).bb
  go_wp2_with (refine load_row rfl 32 _ rfl (w.heap.size + 1) rfl #[.int .i64 p', .int .i64 wd', .int .i64 ht', .int .i64 rs', .slice ao' n' cap', .slice tO' tN' tC', .slice cO' cN' cC', .int .i64 md', .slice sO' sN' sC', .slice no' nn' nc'] 32 hb _ Tryz.underlying32 rfl (by kernel_rfl) ?_)
  refine (toStream p' wd' ht' rs' md' ao' n' cap' C' _ T' _ X' _ S' no' nn' nc' zs' w8 ((unhide HRD').st (unhide I8).grown) (unhide HZ')).mono ?_
  rintro e w9 ⟨ao9, cap9, vt9, vc9, vs9, no9, nc9, rfl, rr, gg⟩
  obtain ⟨t9, tn9, tc9, rfl⟩ : ∃ a n c, vt9 = .slice a n c := by obtain ⟨a, c, e, _⟩ := rr.tb; exact ⟨a, _, c, e⟩
  obtain ⟨c9, cn9, cc9, rfl⟩ : ∃ a n c, vc9 = .slice a n c := by obtain ⟨a, c, e, _⟩ := rr.co; exact ⟨a, _, c, e⟩
  obtain ⟨s9, sn9, sc9, rfl⟩ : ∃ a n c, vs9 = .slice a n c := by obtain ⟨a, c, e, _⟩ := rr.sc; exact ⟨a, _, c, e⟩
  have I9 := hide ((unhide I8).new gg)
  have R9 := hide rr
  have P9 := hide ((unhide R8).st gg)
  have HA9 := hide (grown_atT gg (unhide HX7) (by simp))
  clear R8 HX7
  clear hb I8 gg rr
  have ha := heap_alloc_new w9 (.cells #[.int .i64 0, .int .i64 0, .int .i64 0, .int .i64 0, .slice none 0 0, .slice none 0 0, .slice none 0 0, .int .i64 0, .slice none 0 0, .slice none 0 0] 41)
  have HGA := hide (World.grownBy_alloc w9 (.cells #[.int .i64 0, .int .i64 0, .int .i64 0, .int .i64 0, .slice none 0 0, .slice none 0 0, .slice none 0 0, .int .i64 0, .slice none 0 0, .slice none 0 0] 41) none)
  go_wp2_with (refine store_row rfl 41 _ _ rfl w9.heap.size rfl #[.int .i64 p', .int .i64 wd', .int .i64 ht', .int .i64 rs', .slice ao9 n' cap9, .slice t9 tn9 tc9, .slice c9 cn9 cc9, .int .i64 md', .slice s9 sn9 sc9, .slice no9 nn' nc9] rfl #[.int .i64 0, .int .i64 0, .int .i64 0, .int .i64 0, .slice none 0 0, .slice none 0 0, .slice none 0 0, .int .i64 0, .slice none 0 0, .slice none 0 0] 41 ha rfl (by kernel_rfl) (by simp [Value.oneCell']) ?_)
  intro w10 hbx gx
  have G10 := grown_new (unhide HGA) gx (fun x e => by have := Option.some.inj e; omega)
  have I10 := hide ((unhide I9).new G10)
  have R10 := hide ((unhide R9).st G10)
  have HX9 : Hid (w10.heap[w9.heap.size]? = some (.cells #[.int .i64 p', .int .i64 wd', .int .i64 ht', .int .i64 rs', .slice ao9 n' cap9, .slice t9 tn9 tc9, .slice c9 cn9 cc9, .int .i64 md', .slice s9 sn9 sc9, .slice no9 nn' nc9] 41 (0, 0))) := hbx
  have P10 := hide ((unhide P9).st G10)
  have HA10 := hide (grown_atT G10 (unhide HA9) (by simp))
  clear P9 HA9
  clear ha HGA G10 gx hbx I9 R9
  have hba := unhide HA10
  have hbx := unhide HX9
  go_wp2_with (first | refine load_row rfl 41 _ rfl w7.heap.size rfl #[.int .i64 p, .int .i64 wd, .int .i64 ht, .int .i64 rs, .slice ao7 n cap7, .slice t7 tn7 tc7, .slice c7 cn7 cc7, .int .i64 md, .slice s7 sn7 sc7, .slice no7 nn nc7] 41 hba _ Tryz.underlying41 rfl (by kernel_rfl) ?_ | refine load_row rfl 41 _ rfl w9.heap.size rfl #[.int .i64 p', .int .i64 wd', .int .i64 ht', .int .i64 rs', .slice ao9 n' cap9, .slice t9 tn9 tc9, .slice c9 cn9 cc9, .int .i64 md', .slice s9 sn9 sc9, .slice no9 nn' nc9] 41 hbx _ Tryz.underlying41 rfl (by kernel_rfl) ?_)
  refine (implSameStream p wd ht rs md ao7 n cap7 C _ T _ X _ S no7 nn nc7 zs p' wd' ht' rs' md' ao9 n' cap9 C' _ T' _ X' _ S' no9 nn' nc9 zs' w10 (unhide P10) (unhide HZ) (unhide R10) (unhide HZ') (unhide HY) (unhide HY') b HB b' HB' t HTT).mono ?_
  rintro e w11 ⟨rfl, g11⟩
  have I11 := hide ((unhide I10).new g11)
  have P11 := hide ((unhide P10).st g11)
  have R11 := hide ((unhide R10).st g11)
  have HA11 := hide (grown_atT g11 (unhide HA10) (by simp))
  have HX11 := hide (grown_atT g11 (unhide HX9) (by simp))
  clear hba hbx g11 I10 P10 R10 HA10 HX9
  go_wp2
  have gd := grown_drew (World.grownBy.refl w11 none)
  have I12 := hide ((unhide I11).new gd)
  have P12 := hide ((unhide P11).st gd)
  have R12 := hide ((unhide R11).st gd)
  have HA12 := hide (grown_atT gd (unhide HA11) (by simp))
  have HX12 := hide (grown_atT gd (unhide HX11) (by simp))
  clear gd I11 P11 R11 HA11 HX11
  refine wp_region_noPanic ?_
  refine wp_region_tailL 20 (fun W => InS2 w W #[.int .i64 p, .int .i64 wd, .int .i64 ht, .int .i64 rs, .slice ao n cap, .slice tO tN tC, .slice cO cN cC, .int .i64 md, .slice sO sN sC, .slice no nn nc] #[.int .i64 p', .int .i64 wd', .int .i64 ht', .int .i64 rs', .slice ao' n' cap', .slice tO' tN' tC', .slice cO' cN' cC', .int .i64 md', .slice sO' sN' sC', .slice no' nn' nc'] ∧ W.heap[w7.heap.size]? = some (.cells #[.int .i64 p, .int .i64 wd, .int .i64 ht, .int .i64 rs, .slice ao7 n cap7, .slice t7 tn7 tc7, .slice c7 cn7 cc7, .int .i64 md, .slice s7 sn7 sc7, .slice no7 nn nc7] 41 (0, 0)) ∧ W.heap[w9.heap.size]? = some (.cells #[.int .i64 p', .int .i64 wd', .int .i64 ht', .int .i64 rs', .slice ao9 n' cap9, .slice t9 tn9 tc9, .slice c9 cn9 cc9, .int .i64 md', .slice s9 sn9 sc9, .slice no9 nn' nc9] 41 (0, 0))) [true, true, false, false, false] (by kernel_rfl) (fun _ _ _ _ _ h => h) rfl (by decide) (by kernel_rfl) ⟨unhide I12, unhide HA12, unhide HX12⟩ ?_
  generalize w11.drew = w12 at *
  refine heldF_take (v := ?_) (Or.inl ⟨by rfl, ?_⟩) ?_
  rotate_left 1
  · intro w' hSw
    have s1 := cells10 hSw.2.1
    go_simp
    try with_reducible rfl
  try simp only [Act.put, List.setIfInBounds_toArray, List.set_cons_zero, List.set_cons_succ]
  refine heldF_take (v := ?_) (Or.inl ⟨by rfl, ?_⟩) ?_
  rotate_left 1
  · intro w' hSw
    have s1 := cells10 hSw.1.ab
    go_simp
    try with_reducible rfl
  try simp only [Act.put, List.setIfInBounds_toArray, List.set_cons_zero, List.set_cons_succ]
  refine heldF_skip ?_
  refine heldF_skip ?_
  refine heldF_skip ?_
  refine heldF_nil ?_
  refine tailL_skip ?_
  refine tailL_skip ?_
  refine tailL_step (fun K hK => ?_)
  go_simp
  refine (toStream p wd ht rs md ao n cap C _ T _ X _ S no nn nc zs w12 ((unhide HRD).st (unhide I12).grown) (unhide HZ)).mono ?_
  rintro e w13 ⟨aoz, capz, vtz, vcz, vsz, noz, ncz, rfl, rz, gz⟩
  have I13 := hide ((unhide I12).new gz)
  have P13 := hide ((unhide P12).st gz)
  have R13 := hide ((unhide R12).st gz)
  have HA13 := hide (grown_atT gz (unhide HA12) (by simp))
  have HX13 := hide (grown_atT gz (unhide HX12) (by simp))
  have Q13 := hide rz
  clear gz rz I12 P12 R12 HA12 HX12
  go_simp
  refine hK.out _ _ (.inr ⟨unhide I13, unhide HA13, unhide HX13⟩) ?_
  clear hK K
  try simp only [Act.put, List.setIfInBounds_toArray, List.set_cons_zero, List.set_cons_succ]
  refine tailL_step (fun K hK => ?_)
  go_simp
  refine (eqStream p wd ht rs md ao7 n cap7 C _ T _ X _ S no7 nn nc7 zs aoz capz _ _ _ noz ncz w13 (unhide P13) (unhide Q13) (unhide HZ)).mono ?_
  rintro e w14 ⟨rfl, gz⟩
  have I14 := hide ((unhide I13).new gz)
  have P14 := hide ((unhide P13).st gz)
  have R14 := hide ((unhide R13).st gz)
  have HA14 := hide (grown_atT gz (unhide HA13) (by simp))
  have HX14 := hide (grown_atT gz (unhide HX13) (by simp))
  clear gz I13 P13 R13 HA13 HX13 Q13
  go_simp
  refine hK.out _ _ (.inr ⟨unhide I14, unhide HA14, unhide HX14⟩) ?_
  clear hK K
  try simp only [Act.put, List.setIfInBounds_toArray, List.set_cons_zero, List.set_cons_succ]
  refine tailL_step (fun K hK => ?_)
  go_simp
  refine hK.out _ _ (.inl rfl) ?_
  clear hK K
  refine tailL_nil (NoPanic.normal ?_)
  try simp only [Act.put]
  go_wp2
  have gd := grown_drew (World.grownBy.refl w14 none)
  have I15 := hide ((unhide I14).new gd)
  have P15 := hide ((unhide P14).st gd)
  have R15 := hide ((unhide R14).st gd)
  have HA15 := hide (grown_atT gd (unhide HA14) (by simp))
  have HX15 := hide (grown_atT gd (unhide HX14) (by simp))
  clear gd I14 P14 R14 HA14 HX14
  refine wp_region_noPanic ?_
  refine wp_region_tailL 20 (fun W => InS2 w W #[.int .i64 p, .int .i64 wd, .int .i64 ht, .int .i64 rs, .slice ao n cap, .slice tO tN tC, .slice cO cN cC, .int .i64 md, .slice sO sN sC, .slice no nn nc] #[.int .i64 p', .int .i64 wd', .int .i64 ht', .int .i64 rs', .slice ao' n' cap', .slice tO' tN' tC', .slice cO' cN' cC', .int .i64 md', .slice sO' sN' sC', .slice no' nn' nc'] ∧ W.heap[w7.heap.size]? = some (.cells #[.int .i64 p, .int .i64 wd, .int .i64 ht, .int .i64 rs, .slice ao7 n cap7, .slice t7 tn7 tc7, .slice c7 cn7 cc7, .int .i64 md, .slice s7 sn7 sc7, .slice no7 nn nc7] 41 (0, 0)) ∧ W.heap[w9.heap.size]? = some (.cells #[.int .i64 p', .int .i64 wd', .int .i64 ht', .int .i64 rs', .slice ao9 n' cap9, .slice t9 tn9 tc9, .slice c9 cn9 cc9, .int .i64 md', .slice s9 sn9 sc9, .slice no9 nn' nc9] 41 (0, 0))) [true, true, false, false, false] (by kernel_rfl) (fun _ _ _ _ _ h => h) rfl (by decide) (by kernel_rfl) ⟨unhide I15, unhide HA15, unhide HX15⟩ ?_
  generalize w14.drew = w15 at *
  refine heldF_take (v := ?_) (Or.inl ⟨by rfl, ?_⟩) ?_
  rotate_left 1
  · intro w' hSw
    have s1 := cells10 hSw.2.2
    go_simp
    try with_reducible rfl
  try simp only [Act.put, List.setIfInBounds_toArray, List.set_cons_zero, List.set_cons_succ]
  refine heldF_take (v := ?_) (Or.inl ⟨by rfl, ?_⟩) ?_
  rotate_left 1
  · intro w' hSw
    have s1 := cells10 hSw.1.bb
    go_simp
    try with_reducible rfl
  try simp only [Act.put, List.setIfInBounds_toArray, List.set_cons_zero, List.set_cons_succ]
  refine heldF_skip ?_
  refine heldF_skip ?_
  refine heldF_skip ?_
  refine heldF_nil ?_
  refine tailL_skip ?_
  refine tailL_skip ?_
  refine tailL_step (fun K hK => ?_)
  go_simp
  refine (toStream p' wd' ht' rs' md' ao' n' cap' C' _ T' _ X' _ S' no' nn' nc' zs' w15 ((unhide HRD').st (unhide I15).grown) (unhide HZ')).mono ?_
  rintro e w16 ⟨aoz, capz, vtz, vcz, vsz, noz, ncz, rfl, rz, gz⟩
  have I16 := hide ((unhide I15).new gz)
  have P16 := hide ((unhide P15).st gz)
  have R16 := hide ((unhide R15).st gz)
  have HA16 := hide (grown_atT gz (unhide HA15) (by simp))
  have HX16 := hide (grown_atT gz (unhide HX15) (by simp))
  have Q16 := hide rz
  clear gz rz I15 P15 R15 HA15 HX15
  go_simp
  refine hK.out _ _ (.inr ⟨unhide I16, unhide HA16, unhide HX16⟩) ?_
  clear hK K
  try simp only [Act.put, List.setIfInBounds_toArray, List.set_cons_zero, List.set_cons_succ]
  refine tailL_step (fun K hK => ?_)
  go_simp
  refine (eqStream p' wd' ht' rs' md' ao9 n' cap9 C' _ T' _ X' _ S' no9 nn' nc9 zs' aoz capz _ _ _ noz ncz w16 (unhide R16) (unhide Q16) (unhide HZ')).mono ?_
  rintro e w17 ⟨rfl, gz⟩
  have I17 := hide ((unhide I16).new gz)
  have P17 := hide ((unhide P16).st gz)
  have R17 := hide ((unhide R16).st gz)
  have HA17 := hide (grown_atT gz (unhide HA16) (by simp))
  have HX17 := hide (grown_atT gz (unhide HX16) (by simp))
  clear gz I16 P16 R16 HA16 HX16 Q16
  go_simp
  refine hK.out _ _ (.inr ⟨unhide I17, unhide HA17, unhide HX17⟩) ?_
  clear hK K
  try simp only [Act.put, List.setIfInBounds_toArray, List.set_cons_zero, List.set_cons_succ]
  refine tailL_step (fun K hK => ?_)
  go_simp
  refine hK.out _ _ (.inl rfl) ?_
  clear hK K
  refine tailL_nil (NoPanic.normal ?_)
  try simp only [Act.put]
  go_wp2
  go_ret
  exact ⟨rfl, grown_below (unhide I17).grown⟩
end Go.Proofs.YtjkokbijnaodnaaGreat
