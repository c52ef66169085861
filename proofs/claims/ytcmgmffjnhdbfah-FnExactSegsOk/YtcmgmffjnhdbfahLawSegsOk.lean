/-
  The walk of the law on SegsOk.
-/
import Derived.Test.YtcmgmffjnhdbfahSegOkSpec
import Derived.Test.YtcmgmffjnhdbfahSegOkImpl
import Derived.Test.YtcmgmffjnhdbfahSegLaws
import Derived.Test.YtcmgmffjnhdbfahSegSize
import Derived.Test.YtcmgmffjnhdbfahSegAid
namespace Go.Proofs.Ytcmgmffjnhdbfah
open Go.RowKit

set_option maxHeartbeats 1600000 in
theorem lawSegsOk (ao : Option Addr) (n cap : Nat) (ss : List (Int × List Int)) (w : World) (hr : RdS w ao n ss) (hm : n ≤ maxLen) (hd : ∀ i, i < n → (ss.getD i (0, [])).2.length ≤ maxLen) :
    Calls Try.prog 5 #[.slice ao n cap] w fun e w' => e = .returned (.bool true) ∧ Below w.heap.size w w' := by
  unfold maxLen at hm hd
  have HD : Hid (∀ i, i < n → (ss.getD i (0, [])).2.length ≤ 9223372036854775807) := fun i hi => by have := hd i hi; omega
  have HR := hide hr
  clear hd hr
  by_cases hbig : totS ss n n ≤ 1048576
  · have HSZ : Hid ((if totS ss n n ≤ 1048576 then 1048576 - (totS ss n n : Int) else -1) = 1048576 - (totS ss n n : Int)) := if_pos hbig
    have hneg : decide ((1048576 : Int) - (totS ss n n : Int) < 0) = false := decide_eq_false (by omega)
    obtain ⟨hn1, hdl⟩ := tot_len ss n _ hbig
    have hn : n ≤ 4194304 := by omega
    have HDL : Hid (∀ i, i < n → (ss.getD i (0, [])).2.length ≤ 4194304) := fun i hi => by have := hdl i hi; omega
    clear hdl hn1
    go_enter Try.func5, Try.ntmps5
    go_wp2_with fail
    refine (szSegS ao n cap ss _ w HSZ (unhide HR) (by omega) (unhide HD)).mono ?_
    rintro e w0 ⟨rfl, g0⟩
    generalize (1048576 : Int) - (totS ss n n : Int) = sz at hneg
    go_wp2_with fail
    refine (toSegS ao n cap ss w0 ((unhide HR).grown g0) hn (unhide HDL)).mono ?_
    rintro e w1 ⟨rfl, o1, g1⟩
    have G1 := grown_trans g0 g1
    clear g0 g1
    go_wp2_with fail
    refine (specSegsOk _ n n ss w1 o1.rd).mono ?_
    rintro e w2 ⟨rfl, g2⟩
    have G2 := grown_trans G1 g2
    clear o1 g2 G1
    go_wp2_with fail
    refine (toSegS ao n cap ss w2 ((unhide HR).grown G2) hn (unhide HDL)).mono ?_
    rintro e w3 ⟨rfl, o3, g3⟩
    have G3 := grown_trans G2 g3
    clear g3 G2
    go_wp2_with fail
    refine (implSegsOk _ n n ss w3 o3.rd).mono ?_
    rintro e w4 ⟨rfl, g4⟩
    have G4 := grown_trans G3 g4
    have p3 := o3.rd.grown g4
    clear o3 g4 G3
    have hne : (okS ss != okS ss) = false := by simp
    generalize okS ss = ok at hne
    go_wp2_with fail
    refine (toSegS ao n cap ss w4 ((unhide HR).grown G4) hn (unhide HDL)).mono ?_
    rintro e w5 ⟨rfl, o5, g5⟩
    have G5 := grown_trans G4 g5
    have q3 := p3.grown g5
    clear p3 g5 G4
    go_wp2_with fail
    refine (eqSegS _ _ _ _ _ ss w5 q3 o5.rd hn (unhide HDL)).mono ?_
    rintro e w6 ⟨rfl, g6⟩
    have G6 := grown_trans G5 g6
    go_wp2
    go_ret
    exact ⟨rfl, grown_below G6⟩
  · have HSZ : Hid ((if totS ss n n ≤ 1048576 then 1048576 - (totS ss n n : Int) else -1) = -1) := if_neg hbig
    go_enter Try.func5, Try.ntmps5
    go_wp2_with fail
    refine (szSegS ao n cap ss _ w HSZ (unhide HR) (by omega) (unhide HD)).mono ?_
    rintro e w0 ⟨rfl, g0⟩
    go_wp2
    go_ret
    exact ⟨rfl, grown_below g0⟩

end Go.Proofs.Ytcmgmffjnhdbfah
