/-
  The walk of the law on WriteSegs.
-/
import Derived.Test.YtcmgmffjnhdbfahSegWriteSpec
import Derived.Test.YtcmgmffjnhdbfahSegWriteImpl
import Derived.Test.YtcmgmffjnhdbfahSegLaws
import Derived.Test.YtcmgmffjnhdbfahSegSize
import Derived.Test.YtcmgmffjnhdbfahSegAid
namespace Go.Proofs.Ytcmgmffjnhdbfah
open Go.RowKit

theorem pos_tot (ss : List (Int × List Int)) (n : Nat) (k : Int) : ∀ i, posK k (fun i => (ss.getD i (0, [])).2.length) i = k + i + (totS ss n i : Int) - n := by
  intro i
  induction i with
  | zero => simp [posK, totS]
  | succ i ih => rw [posK, totS, ih]; omega
theorem writeS_len (ss : List (Int × List Int)) : (writeS ss).length ≤ 60000 := by
  unfold writeS
  split
  · rename_i h; simp; omega
  · simp

set_option maxHeartbeats 3200000 in
theorem lawWriteSegs (ao : Option Addr) (n cap : Nat) (ss : List (Int × List Int)) (w : World) (hr : RdS w ao n ss) (hm : n ≤ maxLen) (hd : ∀ i, i < n → (ss.getD i (0, [])).2.length ≤ maxLen) :
    Calls Try.prog 6 #[.slice ao n cap] w fun e w' => e = .returned (.bool true) ∧ Below w.heap.size w w' := by
  unfold maxLen at hm hd
  have HD : Hid (∀ i, i < n → (ss.getD i (0, [])).2.length ≤ 9223372036854775807) := fun i hi => by have := hd i hi; omega
  have HR := hide hr
  clear hd hr
  by_cases hbig : totS ss n n ≤ 1048576
  · have HSZ : Hid ((if totS ss n n ≤ 1048576 then 1048576 - (totS ss n n : Int) else -1) = 1048576 - (totS ss n n : Int)) := if_pos hbig
    have hneg : decide ((1048576 : Int) - (totS ss n n : Int) < 0) = false := decide_eq_false (by omega)
    obtain ⟨hn1, hdl⟩ := tot_len ss n _ hbig
    have hn : n ≤ 4194304 := by omega
    have HDL : Hid (∀ i, i < n → (ss.getD i (0, [])).2.length ≤ 4194304) := fun i hi => by have := hdl i hi; omega
    have hpos := pos_tot ss n 1 n
    have HPB : Hid (posK 1 (fun i => (ss.getD i (0, [])).2.length) n ≤ 1073741824) := by unfold Hid; omega
    have hpn : decide (posK 1 (fun i => (ss.getD i (0, [])).2.length) n < 0) = false := decide_eq_false (by omega)
    have hwl := writeS_len ss
    have hwl4 : (writeS ss).length ≤ 4194304 := by omega
    clear hdl hn1 hpos
    go_enter Try.func6, Try.ntmps6
    go_wp2_with fail
    refine (szSegS ao n cap ss _ w HSZ (unhide HR) (by omega) (unhide HD)).mono ?_
    rintro e w0 ⟨rfl, g0⟩
    generalize (1048576 : Int) - (totS ss n n : Int) = sz at hneg
    go_wp2_with fail
    refine (toSegS ao n cap ss w0 ((unhide HR).grown g0) hn (unhide HDL)).mono ?_
    rintro e w1 ⟨rfl, o1, g1⟩
    have G1 := grown_trans g0 g1
    clear g0 g1
    go_wp2_with fail
    refine (specWriteSegs _ n n ss w1 o1.rd).mono ?_
    rintro e w2 ⟨wo, wc, rfl, oW, g2⟩
    have G2 := grown_trans G1 g2
    have hs1 := G1.size
    have hs2 := g2.size
    have BW : Hid (∀ g, (Value.slice wo (writeS ss).length wc).ownBlock = some g → g < w2.heap.size) := fun g e => (oW.lt g e).2
    clear o1 g2 G1
    go_wp2_with fail
    refine (toSegS ao n cap ss w2 ((unhide HR).grown G2) hn (unhide HDL)).mono ?_
    rintro e w3 ⟨rfl, oX, g3⟩
    have G3 := grown_trans G2 g3
    have oW3 := own_grown oW g3
    have hs3 := g3.size
    clear g3 G2 oW
    go_wp2_with fail
    refine (implWriteSegs _ n n ss w3 oX.rd).mono ?_
    rintro e w4 ⟨yo, yc, rfl, oY, g4⟩
    have G4 := grown_trans G3 g4
    have oW4 := own_grown oW3 g4
    have oX4 := oX.grown g4 (Nat.le_refl _)
    have BY : Hid (∀ g, (Value.slice yo (writeS ss).length yc).ownBlock = some g → w3.heap.size ≤ g ∧ g < w4.heap.size) := fun g e => oY.lt g e
    have hs4 := g4.size
    clear oW3 oX g4 G3
    go_wp2_with fail
    refine (eqByteS _ _ _ _ _ (writeS ss) w4 (own_rd oY) (own_rd oW4) hwl4).mono ?_
    rintro e w5 ⟨rfl, g5⟩
    have G5 := grown_trans G4 g5
    have oW5 := own_grown oW4 g5
    have oY5 := own_grown oY g5
    have oX5 := oX4.grown g5 hs4
    have hs5 := g5.size
    clear oW4 oY oX4 g5 G4
    go_wp2_with fail
    refine (toSegS ao n cap ss w5 ((unhide HR).grown G5) hn (unhide HDL)).mono ?_
    rintro e w6 ⟨rfl, oT, g6⟩
    have G6 := grown_trans G5 g6
    have oW6 := own_grown oW5 g6
    have oY6 := own_grown oY5 g6
    have oX6 := oX5.grown g6 (by omega)
    have hs6 := g6.size
    clear oW5 oY5 oX5 g6 G5
    go_wp2_with fail
    refine (eqSegS _ _ _ _ _ ss w6 oX6.rd oT.rd hn (unhide HDL)).mono ?_
    rintro e w7 ⟨rfl, g7⟩
    have G7 := grown_trans G6 g7
    have oW7 := own_grown oW6 g7
    have oY7 := own_grown oY6 g7
    have oX7 := oX6.grown g7 (by omega)
    have hs7 := g7.size
    clear oW6 oY6 oX6 g7 G6 oT
    go_wp2_with fail
    refine (markSegS _ n _ _ _ ss 1 w7 oX7 hn (by omega) (unhide HPB) (unhide HDL)).mono ?_
    rintro e w8 ⟨rfl, _, k8⟩
    have G8 := Kp.new G7 k8 (by omega)
    have oW8 := own_sameAt oW7 (fun g e => k8.block g (by have := unhide BW g e; omega) (.inl (unhide BW g e)))
    have oY8 := own_sameAt oY7 (fun g e => k8.block g (by have := unhide BY g e; omega) (.inr (unhide BY g e).1))
    have hs8 := k8.size
    clear oW7 oY7 oX7 k8 G7
    generalize posK 1 (fun i => (ss.getD i (0, [])).2.length) n = pk at hpn
    go_wp2_with fail
    refine (eqByteS _ _ _ _ _ (writeS ss) w8 (own_rd oY8) (own_rd oW8) hwl4).mono ?_
    rintro e w9 ⟨rfl, g9⟩
    have G9 := grown_trans G8 g9
    have oW9 := own_grown oW8 g9
    have oY9 := own_grown oY8 g9
    clear oW8 oY8 g9 G8
    go_wp2_with fail
    refine (markByteS _ _ _ _ _ 1 w9 oY9 hwl4 (by omega) (by omega)).mono ?_
    rintro e wa ⟨rfl, oYa, ga⟩
    have Ga := grown_new G9 ga (fun g e => by have := unhide BY g e; omega)
    have oWa := own_beneath oW9 ga (fun g g' h h' => by have := unhide BW g h; have := unhide BY g' h'; omega)
    clear oW9 oY9 ga G9
    go_wp2_with fail
    refine (heldByteS _ _ _ 1 wa (own_rd oYa) hwl4 (by omega) (by omega)).mono ?_
    rintro e wb ⟨rfl, gb⟩
    have Gb := grown_trans Ga gb
    have oWb := own_grown oWa gb
    have oYb := own_grown oYa gb
    clear oWa oYa gb Ga
    have hneg2 : decide (1 + ((writeS ss).length : Int) < 0) = false := decide_eq_false (by omega)
    go_wp2_with fail
    refine (toSegS ao n cap ss wb ((unhide HR).grown Gb) hn (unhide HDL)).mono ?_
    rintro e wd ⟨rfl, od, gd⟩
    have Gd := grown_trans Gb gd
    have oWd := own_grown oWb gd
    have oYd := own_grown oYb gd
    clear oWb oYb gd Gb
    go_wp2_with fail
    refine (implWriteSegs _ n n ss wd od.rd).mono ?_
    rintro e we ⟨zo, zc, rfl, oZ, ge⟩
    have Ge := grown_trans Gd ge
    have oWe := own_grown oWd ge
    have oYe := own_grown oYd ge
    clear oWd oYd ge Gd od
    go_wp2_with fail
    refine (eqByteS _ _ _ _ _ (writeS ss) we (own_rd oZ) (own_rd oWe) hwl4).mono ?_
    rintro e wf ⟨rfl, gf⟩
    have Gf := grown_trans Ge gf
    have oYf := own_grown oYe gf
    clear oWe oYe gf Ge oZ
    go_wp2_with fail
    refine (heldByteS _ _ _ 1 wf (own_rd oYf) hwl4 (by omega) (by omega)).mono ?_
    rintro e wg ⟨rfl, gg⟩
    have Gg := grown_trans Gf gg
    go_wp2
    go_ret
    exact ⟨rfl, grown_below Gg⟩
  · have HSZ : Hid ((if totS ss n n ≤ 1048576 then 1048576 - (totS ss n n : Int) else -1) = -1) := if_neg hbig
    go_enter Try.func6, Try.ntmps6
    go_wp2_with fail
    refine (szSegS ao n cap ss _ w HSZ (unhide HR) (by omega) (unhide HD)).mono ?_
    rintro e w0 ⟨rfl, g0⟩
    go_wp2
    go_ret
    exact ⟨rfl, grown_below g0⟩

end Go.Proofs.Ytcmgmffjnhdbfah
