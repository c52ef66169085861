/-
  The walk of the law on Unstuff.
-/
import Derived.Test.YthnandohmggieahUnstuffSpec
namespace Go.Proofs.Ythnandohmggieah
open Go.RowKit

set_option maxHeartbeats 1600000 in
theorem lawUnstuff (ao : Option Addr) (n cap : Nat) (zs : List Int) (w : World) (hr : Rd .u8 w ao n zs) :
    Calls Try.prog 4 #[.slice ao n cap] w fun e w' => e = .returned (.bool true) ∧ Below w.heap.size w w' := by
  by_cases hbig : n ≤ 1048576
  · have hdec : decide ((1048576 : Int) < (n : Int)) = false := by simp; omega
    have hn : n ≤ 4194304 := by omega
    have hm : (unst zs).1.length ≤ 4194304 := by have := unst_len zs; have := hr.1; omega
    go_enter Try.func4, Try.ntmps4
    go_wp2_with fail
    refine (toByteS ao n cap zs w hr hn).mono ?_
    rintro e w1 ⟨rfl, o1, g1⟩
    go_wp2_with fail
    refine (specUnstuff _ n n zs w1 (own_rd o1) hn).mono ?_
    rintro e w2 ⟨so, sc, rfl, o2, g2⟩
    have l2 := fun k hk => (o2.lt k hk).2
    have G2 := grown_trans g1 g2
    clear o1 g1 g2
    go_wp2_with fail
    refine (toByteS ao n cap zs w2 (hr.grown G2) hn).mono ?_
    rintro e w3 ⟨rfl, o3, g3⟩
    have l3 := (o3.lt _ rfl).2
    have G3 := grown_trans G2 g3
    go_wp2_with fail
    refine (implUnstuff _ n n zs w3 (own_rd o3) hn).mono ?_
    rintro e w4 ⟨go, gc, rfl, o4, g4⟩
    have G4 := grown_trans G3 g4
    have b4 := fun k hk => (o4.lt k hk).1
    have p2 := own_grown o2 (grown_trans g3 g4)
    have p3 := own_grown o3 g4
    clear o2 o3 g4 g3 G3
    go_wp2_with fail
    refine (eqByteS go so _ gc sc (unst zs).1 w4 (own_rd o4) (own_rd p2) hm).mono ?_
    rintro e w5 ⟨rfl, g5⟩
    have G5 := grown_trans G4 g5
    have q2 := own_grown p2 g5
    have q3 := own_grown p3 g5
    have q4 := own_grown o4 g5
    clear p2 p3 o4 g5 G4
    go_wp2_with fail
    refine (toByteS ao n cap zs w5 (hr.grown G5) hn).mono ?_
    rintro e w6 ⟨rfl, o6, g6⟩
    have G6 := grown_trans G5 g6
    have r2 := own_grown q2 g6
    have r3 := own_grown q3 g6
    have r4 := own_grown q4 g6
    clear q2 q3 q4 g6 G5
    go_wp2_with fail
    refine (eqByteS _ _ _ _ _ zs w6 (own_rd r3) (own_rd o6) hn).mono ?_
    rintro e w7 ⟨rfl, g7⟩
    have G7 := grown_trans G6 g7
    have s2 := own_grown r2 g7
    have s3 := own_grown r3 g7
    have s4 := own_grown r4 g7
    clear r2 r3 r4 g7 G6 o6
    go_wp2_with fail
    refine (markByteS _ _ _ _ _ 1 w7 s3 hn (by omega) (by omega)).mono ?_
    rintro e w8 ⟨rfl, _, g8⟩
    have G8 := grown_new G7 g8 (fun g e => by simp [Value.ownBlock] at e; have := G2.size; omega)
    have t2 := own_beneath s2 g8 (fun g g' h h' => by have := l2 g h; simp [Value.ownBlock] at h'; omega)
    have t4 := own_beneath s4 g8 (fun g g' h h' => by have := b4 g h; simp [Value.ownBlock] at h'; omega)
    clear s2 s3 s4 g8 G7
    have hneg : decide (1 + (n : Int) < 0) = false := by simp; omega
    go_wp2_with fail
    refine (eqByteS go so _ gc sc (unst zs).1 w8 (own_rd t4) (own_rd t2) hm).mono ?_
    rintro e w9 ⟨rfl, g9⟩
    have G9 := grown_trans G8 g9
    have u2 := own_grown t2 g9
    have u4 := own_grown t4 g9
    clear t2 t4 g9 G8
    go_wp2_with fail
    refine (markByteS _ _ _ _ _ 1 w9 u4 hm (by omega) (by omega)).mono ?_
    rintro e wa ⟨rfl, x4, ga⟩
    have Ga := grown_new G9 ga (fun g e => by have := b4 g e; have := G2.size; omega)
    have x2 := own_beneath u2 ga (fun g g' h h' => by have := l2 g h; have := b4 g' h'; omega)
    clear u2 u4 ga G9
    go_wp2_with fail
    refine (heldByteS _ _ _ 1 wa (own_rd x4) hm (by omega) (by omega)).mono ?_
    rintro e wb ⟨rfl, gb⟩
    have Gb := grown_trans Ga gb
    have y2 := own_grown x2 gb
    have y4 := own_grown x4 gb
    clear x2 x4 gb Ga
    have hneg2 : decide (1 + ((unst zs).1.length : Int) < 0) = false := by simp; omega
    go_wp2_with fail
    refine (toByteS ao n cap zs wb (hr.grown Gb) hn).mono ?_
    rintro e wc ⟨rfl, oc, gc'⟩
    have Gc := grown_trans Gb gc'
    have z2 := own_grown y2 gc'
    have z4 := own_grown y4 gc'
    clear y2 y4 gc' Gb
    go_wp2_with fail
    refine (implUnstuff _ n n zs wc (own_rd oc) hn).mono ?_
    rintro e wd ⟨ho, hc, rfl, od, gd⟩
    have Gd := grown_trans Gc gd
    have a2 := own_grown z2 gd
    have a4 := own_grown z4 gd
    clear z2 z4 gd Gc oc
    go_wp2_with fail
    refine (eqByteS ho so _ hc sc (unst zs).1 wd (own_rd od) (own_rd a2) hm).mono ?_
    rintro e we ⟨rfl, ge⟩
    have Ge := grown_trans Gd ge
    have c4 := own_grown a4 ge
    clear a2 a4 ge Gd od
    go_wp2_with fail
    refine (heldByteS _ _ _ 1 we (own_rd c4) hm (by omega) (by omega)).mono ?_
    rintro e wf ⟨rfl, gf⟩
    have Gf := grown_trans Ge gf
    go_wp2
    go_ret
    exact ⟨rfl, grown_below Gf⟩
  · have hdec : decide ((1048576 : Int) < (n : Int)) = true := by simp; omega
    go_enter Try.func4, Try.ntmps4
    go_wp2
    go_ret
    exact ⟨rfl, Below.refl _ _⟩

end Go.Proofs.Ythnandohmggieah
