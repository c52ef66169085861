/-
  The walk of the law on JoinBlocks (written by law_cut.py).
-/
import Derived.Test.YtkefpjbdkhifhaaJoinBImpl
import Derived.Test.YtkefpjbdkhifhaaJoinBSpec
import Derived.Test.YtkefpjbdkhifhaaDeepI2
namespace Go.Proofs.Ytkefpjbdkhifhaa
open Go.RowKit

theorem join_few (B : List (List Int)) (w h : Int) : (joinG B w h).length ≤ 131072 := by
  unfold joinG
  split
  · rename_i hc
    simp only [Bool.and_eq_true, decide_eq_true_eq] at hc
    obtain ⟨h1, h2, h3⟩ := sides_of hc.1.1.1.1
    rw [joinL, gridL_len]
    have h4 : ((w.toNat * h.toNat : Nat) : Int) = w * h := by push_cast; rw [Int.toNat_of_nonneg (by omega), Int.toNat_of_nonneg (by omega)]
    omega
  · simp

set_option maxRecDepth 20000 in
set_option maxHeartbeats 6400000 in
theorem lawJoinBlocks (ao : Option Addr) (n cap : Nat) (zs : List (List Int)) (pw ph : Int) (w : World) (hr : Rd2 w (.slice ao n cap) zs) (hm : RdZ (RdR (RdZ (RdI .i64))) w (.slice ao n cap) zs) :
    Calls Try.prog 11 #[.slice ao n cap, .int .i64 pw, .int .i64 ph] w fun e w' => e = .returned (.bool true) ∧ Below w.heap.size w w' := by
  have HZ : Hid (zs.length = n) := by
    obtain ⟨_, _, e, _⟩ := hr
    simp only [Value.slice.injEq] at e
    exact e.2.1.symm
  have HR := hide hr
  have HM := hide hm
  clear hr hm
  obtain ⟨L, HL⟩ : ∃ L, Hid (joinG zs pw ph = L) := ⟨_, rfl⟩
  have hL : lenI L ≤ 1048576 := by have := join_few zs pw ph; rw [unhide HL] at this; unfold lenI; omega
  have hcL : lenI L ≤ 1048576 := hL
  obtain ⟨ll, HLL⟩ : ∃ ll, Hid (L.length = ll) := ⟨_, rfl⟩
  obtain ⟨cl, HCL⟩ : ∃ k : Nat, Hid (lenI L = k) := ⟨_, rfl⟩
  rw [unhide HCL] at hcL
  have BZ : Hid (w.heap.size ≤ w.heap.size) := Nat.le_refl _
  have B0 : Hid (w.grownBy w none) := World.grownBy.refl _ _
  by_cases hbig : ¬ szR lenI zs ≤ 1048576
  · go_enter Try.func11, Try.ntmps11
    go_wp2_with fail
    refine (szIntSSC w _ zs 1048576 (unhide HM) (by omega)).mono ?_
    rintro e w ⟨rfl, rfl⟩
    rw [if_neg hbig]
    go_wp2
    go_ret
    exact ⟨rfl, Below.refl _ _⟩
  · have hsz : szR lenI zs ≤ 1048576 := by omega
    have hcs : cntR lenI zs ≤ 1048576 := by have h9 : cntR lenI zs ≤ szR lenI zs := (by unfold cntR szR; omega); omega
    obtain ⟨cz, HCZ⟩ : ∃ k : Nat, Hid (cntR lenI zs = k) := ⟨_, rfl⟩
    have hcz : cz ≤ 1048576 := by rw [← unhide HCZ]; exact hcs
    have hn9 : n ≤ 1048576 := by have h9 := szR_len lenI zs; have := unhide HZ; omega
    obtain ⟨sr, HSR⟩ : ∃ x : Int, Hid ((if szR lenI zs ≤ 1048576 then (1048576 : Int) - (szR lenI zs : Nat) else -1) = x) := ⟨_, rfl⟩
    have hneg0 : decide (sr < 0) = false := decide_eq_false (by have := unhide HSR; rw [if_pos hsz] at this; omega)
    clear hbig hcs
    go_enter Try.func11, Try.ntmps11
    go_wp2_with fail
    refine (szIntSSC w _ zs 1048576 (unhide HM) (by omega)).mono ?_
    rintro e w ⟨rfl, rfl⟩
    rw [show ((1048576 : Nat) : Int) = (1048576 : Int) from rfl, unhide HSR]
    go_wp2_with fail
    refine (toIntSSC w _ zs (st2 _ _ _ _ (unhide HR) (unhide B0)) hsz).mono ?_
    rintro e w1 ⟨u1, F1, rfl, o1, n1, l1, g1⟩
    obtain ⟨so1, sc1, rfl⟩ := OwR.form o1
    rw [unhide HZ] at o1 ⊢
    have LOA : Hid (∀ g ∈ F1, w.heap.size ≤ g ∧ g < w1.heap.size) := fun g e => ⟨l1 g e, ok2.lt _ _ _ _ o1 g e⟩
    have NDA := hide n1
    have A_0 := hide o1
    clear o1 n1 l1
    have B1 := hide (grown_trans (unhide B0) g1)
    have hz1 := g1.size
    clear B0 g1
    go_wp2_with fail
    refine (specJoinBlocks _ n _ zs pw ph w1 (Ow2.rd (unhide A_0)) (by omega) L HL).mono ?_
    rintro e w2 ⟨so2, sc2, rfl, o2, g2⟩
    have LOW : Hid (∀ g ∈ blk (.slice so2 L.length sc2), w1.heap.size ≤ g ∧ g < w2.heap.size) := fun g e => o2.lt g (mem_blk.1 e)
    have NDW := hide (blk_once (.slice so2 L.length sc2))
    have W_0 : Hid (OwI .i64 3 w2 (.slice so2 L.length sc2) L (blk (.slice so2 L.length sc2))) := OwI.of o2
    rw [unhide HLL] at W_0 LOW NDW ⊢
    clear o2
    have B2 := hide (grown_trans (unhide B1) g2)
    have hz2 := g2.size
    have A_2 := hide (ok2.keep (unhide A_0) g2)
    clear B1 g2 A_0
    clear A_2 LOA NDA
    go_wp2_with fail
    refine (toIntSSC w2 _ zs (st2 _ _ _ _ (unhide HR) (unhide B2)) hsz).mono ?_
    rintro e w3 ⟨u3, F3, rfl, o3, n3, l3, g3⟩
    obtain ⟨so3, sc3, rfl⟩ := OwR.form o3
    rw [unhide HZ] at o3 ⊢
    have LOX : Hid (∀ g ∈ F3, w2.heap.size ≤ g ∧ g < w3.heap.size) := fun g e => ⟨l3 g e, ok2.lt _ _ _ _ o3 g e⟩
    have NDX := hide n3
    have X_0 := hide o3
    clear o3 n3 l3
    have B3 := hide (grown_trans (unhide B2) g3)
    have hz3 := g3.size
    have W_3 := hide (ok1.keep (unhide W_0) g3)
    clear B2 g3 W_0
    go_wp2_with fail
    refine (implJoinBlocks _ n _ zs pw ph w3 (Ow2.rd (unhide X_0)) L HL).mono ?_
    rintro e w4 ⟨so4, sc4, rfl, o4, g4⟩
    have LOY : Hid (∀ g ∈ blk (.slice so4 L.length sc4), w3.heap.size ≤ g ∧ g < w4.heap.size) := fun g e => o4.lt g (mem_blk.1 e)
    have NDY := hide (blk_once (.slice so4 L.length sc4))
    have Y_0 : Hid (OwI .i64 3 w4 (.slice so4 L.length sc4) L (blk (.slice so4 L.length sc4))) := OwI.of o4
    rw [unhide HLL] at Y_0 LOY NDY ⊢
    clear o4
    have B4 := hide (grown_trans (unhide B3) g4)
    have hz4 := g4.size
    have W_4 := hide (ok1.keep (unhide W_3) g4)
    have X_4 := hide (ok2.keep (unhide X_0) g4)
    clear B3 g4 W_3 X_0
    go_wp2_with fail
    refine (eqIntSC w4 _ _ L (OwI.rd (unhide Y_0)) (OwI.rd (unhide W_4)) hL).mono ?_
    rintro e w5 ⟨rfl, g5⟩
    have B5 := hide (grown_trans (unhide B4) g5)
    have hz5 := g5.size
    have W_5 := hide (ok1.keep (unhide W_4) g5)
    have X_5 := hide (ok2.keep (unhide X_4) g5)
    have Y_5 := hide (ok1.keep (unhide Y_0) g5)
    clear B4 g5 W_4 X_4 Y_0
    go_wp2_with fail
    refine (toIntSSC w5 _ zs (st2 _ _ _ _ (unhide HR) (unhide B5)) hsz).mono ?_
    rintro e w6 ⟨u6, F6, rfl, o6, n6, l6, g6⟩
    obtain ⟨so6, sc6, rfl⟩ := OwR.form o6
    rw [unhide HZ] at o6 ⊢
    have LOT : Hid (∀ g ∈ F6, w5.heap.size ≤ g ∧ g < w6.heap.size) := fun g e => ⟨l6 g e, ok2.lt _ _ _ _ o6 g e⟩
    have NDT := hide n6
    have T_0 := hide o6
    clear o6 n6 l6
    have B6 := hide (grown_trans (unhide B5) g6)
    have hz6 := g6.size
    have W_6 := hide (ok1.keep (unhide W_5) g6)
    have X_6 := hide (ok2.keep (unhide X_5) g6)
    have Y_6 := hide (ok1.keep (unhide Y_5) g6)
    clear B5 g6 W_5 X_5 Y_5
    go_wp2_with fail
    refine (eqIntSSC w6 _ _ zs (Ow2.rd (unhide X_6)) (Ow2.rd (unhide T_0)) hsz).mono ?_
    rintro e w7 ⟨rfl, g7⟩
    have B7 := hide (grown_trans (unhide B6) g7)
    have hz7 := g7.size
    have W_7 := hide (ok1.keep (unhide W_6) g7)
    have X_7 := hide (ok2.keep (unhide X_6) g7)
    have Y_7 := hide (ok1.keep (unhide Y_6) g7)
    have T_7 := hide (ok2.keep (unhide T_0) g7)
    clear B6 g7 W_6 X_6 Y_6 T_0
    clear T_7 LOT NDT
    go_wp2_with fail
    refine (markIntSSC w7 _ zs _ 1 (unhide X_7) (unhide NDX) hsz (by omega) (by rw [unhide HCZ]; omega)).mono ?_
    rintro e w8 ⟨rfl, _, g8⟩
    rw [unhide HCZ]
    have hneg : decide (1 + (cz : Int) < 0) = false := decide_eq_false (by omega)
    have B8 := hide (Wr.new (unhide B7) g8 (fun x hx => by have := unhide LOX x hx; have := (unhide BZ); omega))
    have hz8 := g8.size
    have W_8 := hide (ok1.wr (unhide W_7) g8 (fun x hx e => by have := unhide LOX x e; have := unhide LOW x hx; omega))
    have Y_8 := hide (ok1.wr (unhide Y_7) g8 (fun x hx e => by have := unhide LOX x e; have := unhide LOY x hx; omega))
    clear B7 g8 W_7 X_7 Y_7
    go_wp2_with fail
    refine (eqIntSC w8 _ _ L (OwI.rd (unhide Y_8)) (OwI.rd (unhide W_8)) hL).mono ?_
    rintro e w9 ⟨rfl, g9⟩
    have B9 := hide (grown_trans (unhide B8) g9)
    have hz9 := g9.size
    have W_9 := hide (ok1.keep (unhide W_8) g9)
    have Y_9 := hide (ok1.keep (unhide Y_8) g9)
    clear B8 g9 W_8 Y_8
    go_wp2_with fail
    refine (markIntSC w9 _ L _ 1 (unhide Y_9) (unhide NDY) hL (by omega) (by rw [unhide HCL]; omega)).mono ?_
    rintro e w10 ⟨rfl, o10, g10⟩
    rw [unhide HCL]
    have hneg2 : decide (1 + (cl : Int) < 0) = false := decide_eq_false (by omega)
    have hne2 : ((1 : Int) + (cl : Int) != 1 + (cl : Int)) = false := by simp
    have Y_m := hide o10
    clear o10
    have B10 := hide (Wr.new (unhide B9) g10 (fun x hx => by have := unhide LOY x hx; have := (unhide BZ); omega))
    have hz10 := g10.size
    have W_10 := hide (ok1.wr (unhide W_9) g10 (fun x hx e => by have := unhide LOY x e; have := unhide LOW x hx; omega))
    clear B9 g10 W_9 Y_9
    go_wp2_with fail
    refine (heldIntSC w10 _ L 1 (OwI.rd (unhide Y_m)) hL (by omega) (by rw [unhide HCL]; omega)).mono ?_
    rintro e w11 ⟨rfl, g11⟩
    rw [unhide HCL]
    have B11 := hide (grown_trans (unhide B10) g11)
    have hz11 := g11.size
    have W_11 := hide (ok1.keep (unhide W_10) g11)
    have Y_11 := hide (ok1.keep (unhide Y_m) g11)
    clear B10 g11 W_10 Y_m
    go_wp2_with fail
    refine (toIntSSC w11 _ zs (st2 _ _ _ _ (unhide HR) (unhide B11)) hsz).mono ?_
    rintro e w12 ⟨u12, F12, rfl, o12, n12, l12, g12⟩
    obtain ⟨so12, sc12, rfl⟩ := OwR.form o12
    rw [unhide HZ] at o12 ⊢
    have LOA : Hid (∀ g ∈ F12, w11.heap.size ≤ g ∧ g < w12.heap.size) := fun g e => ⟨l12 g e, ok2.lt _ _ _ _ o12 g e⟩
    have NDA := hide n12
    have A_0 := hide o12
    clear o12 n12 l12
    have B12 := hide (grown_trans (unhide B11) g12)
    have hz12 := g12.size
    have W_12 := hide (ok1.keep (unhide W_11) g12)
    have Y_12 := hide (ok1.keep (unhide Y_11) g12)
    clear B11 g12 W_11 Y_11
    go_wp2_with fail
    refine (implJoinBlocks _ n _ zs pw ph w12 (Ow2.rd (unhide A_0)) L HL).mono ?_
    rintro e w13 ⟨so13, sc13, rfl, o13, g13⟩
    have LOH : Hid (∀ g ∈ blk (.slice so13 L.length sc13), w12.heap.size ≤ g ∧ g < w13.heap.size) := fun g e => o13.lt g (mem_blk.1 e)
    have NDH := hide (blk_once (.slice so13 L.length sc13))
    have H_0 : Hid (OwI .i64 3 w13 (.slice so13 L.length sc13) L (blk (.slice so13 L.length sc13))) := OwI.of o13
    rw [unhide HLL] at H_0 LOH NDH ⊢
    clear o13
    have B13 := hide (grown_trans (unhide B12) g13)
    have hz13 := g13.size
    have W_13 := hide (ok1.keep (unhide W_12) g13)
    have Y_13 := hide (ok1.keep (unhide Y_12) g13)
    have A_13 := hide (ok2.keep (unhide A_0) g13)
    clear B12 g13 W_12 Y_12 A_0
    clear A_13 LOA NDA
    go_wp2_with fail
    refine (eqIntSC w13 _ _ L (OwI.rd (unhide H_0)) (OwI.rd (unhide W_13)) hL).mono ?_
    rintro e w14 ⟨rfl, g14⟩
    have B14 := hide (grown_trans (unhide B13) g14)
    have hz14 := g14.size
    have W_14 := hide (ok1.keep (unhide W_13) g14)
    have Y_14 := hide (ok1.keep (unhide Y_13) g14)
    have H_14 := hide (ok1.keep (unhide H_0) g14)
    clear B13 g14 W_13 Y_13 H_0
    clear H_14 LOH NDH
    clear W_14 LOW NDW
    go_wp2_with fail
    refine (heldIntSC w14 _ L 1 (OwI.rd (unhide Y_14)) hL (by omega) (by rw [unhide HCL]; omega)).mono ?_
    rintro e w15 ⟨rfl, g15⟩
    rw [unhide HCL]
    have B15 := hide (grown_trans (unhide B14) g15)
    have hz15 := g15.size
    have Y_15 := hide (ok1.keep (unhide Y_14) g15)
    clear B14 g15 Y_14
    go_wp2
    go_ret
    exact ⟨rfl, grown_below (unhide B15)⟩

end Go.Proofs.Ytkefpjbdkhifhaa
