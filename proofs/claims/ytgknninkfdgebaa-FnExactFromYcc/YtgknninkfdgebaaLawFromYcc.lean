/-
  The walk of the law on FromYcc.
-/
import Derived.Test.YtgknninkfdgebaaColourImpl4
import Derived.Test.YtgknninkfdgebaaIntRows
namespace Go.Proofs.Ytgknninkfdgebaa
open Go.RowKit

set_option maxHeartbeats 3200000 in
theorem lawFromYcc_in (P : Int) (ao : Option Addr) (n cap : Nat) (zs : List Int) (w : World) (hr : Rd .i64 w ao n zs) (hbig : n ≤ 1048576) :
    Calls Try.prog 3 #[.int .i64 P, .slice ao n cap] w fun e w' => e = .returned (.bool true) ∧ Below w.heap.size w w' := by
  all_goals
    have hdec : decide ((1048576 : Int) < (n : Int)) = false := by simp; omega
    have hn : n ≤ 4194304 := by omega
    obtain ⟨L, HL⟩ : ∃ L, Hid (fromYG P zs = L) := ⟨_, rfl⟩
    have hL : L.length ≤ 4194304 := by rw [← unhide HL]; unfold fromYG; split <;> simp [fromL]
    go_enter Try.func3, Try.ntmps3
    go_wp2_with fail
    refine (toIntS ao n cap zs w hr hn).mono ?_
    rintro e w1 ⟨rfl, o1, g1⟩
    have Z1 := hide g1.size
    have G1 := g1
    have B1 : Hid (∀ k, Value.ownBlock _ = some k → w.heap.size ≤ k ∧ k < w1.heap.size) := hide (fun k hk => o1.lt k hk)
    clear g1
    go_wp2_with fail
    refine (specFromYcc P _ n _ zs w1 (own_rd o1) L HL).mono ?_
    rintro e w2 ⟨Wo2, Wc2, rfl, o2, g2⟩
    have Z2 := hide g2.size
    have G2 := grown_trans G1 g2
    have Aa2 := own_grown o1 g2
    have B2 : Hid (∀ k, Value.ownBlock _ = some k → w1.heap.size ≤ k ∧ k < w2.heap.size) := hide (fun k hk => o2.lt k hk)
    clear o1 G1 g2
    clear Aa2
    go_wp2_with fail
    refine (toIntS ao n cap zs w2 (hr.grown G2) hn).mono ?_
    rintro e w3 ⟨rfl, o3, g3⟩
    have Z3 := hide g3.size
    have G3 := grown_trans G2 g3
    have W3 := own_grown o2 g3
    have B3 : Hid (∀ k, Value.ownBlock _ = some k → w2.heap.size ≤ k ∧ k < w3.heap.size) := hide (fun k hk => o3.lt k hk)
    clear o2 G2 g3
    go_wp2_with fail
    refine (implFromYcc P _ n _ zs w3 (own_rd o3) L HL).mono ?_
    rintro e w4 ⟨Yo4, Yc4, rfl, o4, g4⟩
    have Z4 := hide g4.size
    have G4 := grown_trans G3 g4
    have W4 := own_grown W3 g4
    have Xa4 := own_grown o3 g4
    have B4 : Hid (∀ k, Value.ownBlock _ = some k → w3.heap.size ≤ k ∧ k < w4.heap.size) := hide (fun k hk => o4.lt k hk)
    clear W3 o3 G3 g4
    go_wp2_with fail
    refine (eqIntS _ _ _ _ _ L w4 (own_rd o4) (own_rd W4) hL).mono ?_
    rintro e w5 ⟨rfl, g5⟩
    have Z5 := hide g5.size
    have G5 := grown_trans G4 g5
    have W5 := own_grown W4 g5
    have Xa5 := own_grown Xa4 g5
    have Y5 := own_grown o4 g5
    clear W4 Xa4 o4 G4 g5
    go_wp2_with fail
    refine (toIntS ao n cap zs w5 (hr.grown G5) hn).mono ?_
    rintro e w6 ⟨rfl, o6, g6⟩
    have Z6 := hide g6.size
    have G6 := grown_trans G5 g6
    have W6 := own_grown W5 g6
    have Xa6 := own_grown Xa5 g6
    have Y6 := own_grown Y5 g6
    have B6 : Hid (∀ k, Value.ownBlock _ = some k → w5.heap.size ≤ k ∧ k < w6.heap.size) := hide (fun k hk => o6.lt k hk)
    clear W5 Xa5 Y5 G5 g6
    go_wp2_with fail
    refine (eqIntS _ _ _ _ _ zs w6 (own_rd Xa6) (own_rd o6) hn).mono ?_
    rintro e w7 ⟨rfl, g7⟩
    have Z7 := hide g7.size
    have G7 := grown_trans G6 g7
    have W7 := own_grown W6 g7
    have Xa7 := own_grown Xa6 g7
    have Y7 := own_grown Y6 g7
    have T7 := own_grown o6 g7
    clear W6 Xa6 Y6 o6 G6 g7
    clear T7
    go_wp2_with fail
    refine (markIntS _ _ _ _ _ (1) w7 Xa7 hn (by omega) (by omega)).mono ?_
    rintro e w8 ⟨rfl, _, g8⟩
    have Z8 := hide g8.size
    have G8 := grown_new G7 g8 (fun g e => by have := unhide B3 g e; have := unhide Z1; have := unhide Z2; have := unhide Z3; have := unhide Z4; have := unhide Z5; have := unhide Z6; have := unhide Z7; have := unhide Z8; omega)
    have W8 := own_beneath W7 g8 (fun g g' h h' => by have := unhide B2 g h; have := unhide B3 g' h'; have := unhide Z1; have := unhide Z2; have := unhide Z3; have := unhide Z4; have := unhide Z5; have := unhide Z6; have := unhide Z7; have := unhide Z8; omega)
    have Y8 := own_beneath Y7 g8 (fun g g' h h' => by have := unhide B4 g h; have := unhide B3 g' h'; have := unhide Z1; have := unhide Z2; have := unhide Z3; have := unhide Z4; have := unhide Z5; have := unhide Z6; have := unhide Z7; have := unhide Z8; omega)
    clear W7 Xa7 Y7 G7 g8
    have hneg : decide ((1 + (n : Int) : Int) < 0) = false := by simp; omega
    go_wp2_with fail
    refine (eqIntS _ _ _ _ _ L w8 (own_rd Y8) (own_rd W8) hL).mono ?_
    rintro e w9 ⟨rfl, g9⟩
    have Z9 := hide g9.size
    have G9 := grown_trans G8 g9
    have W9 := own_grown W8 g9
    have Y9 := own_grown Y8 g9
    clear W8 Y8 G8 g9
    go_wp2_with fail
    refine (markIntS _ _ _ _ _ 1 w9 Y9 hL (by omega) (by omega)).mono ?_
    rintro e w10 ⟨rfl, o10, g10⟩
    have Z10 := hide g10.size
    have G10 := grown_new G9 g10 (fun g e => by have := unhide B4 g e; have := unhide Z1; have := unhide Z2; have := unhide Z3; have := unhide Z4; have := unhide Z5; have := unhide Z6; have := unhide Z7; have := unhide Z8; have := unhide Z9; have := unhide Z10; omega)
    have W10 := own_beneath W9 g10 (fun g g' h h' => by have := unhide B2 g h; have := unhide B4 g' h'; have := unhide Z1; have := unhide Z2; have := unhide Z3; have := unhide Z4; have := unhide Z5; have := unhide Z6; have := unhide Z7; have := unhide Z8; have := unhide Z9; have := unhide Z10; omega)
    clear W9 Y9 G9 g10
    have hneg2 : decide ((1 + (L.length : Int)) < 0) = false := by simp; omega
    go_wp2_with fail
    refine (heldIntS _ _ _ 1 w10 (own_rd o10) hL (by omega) (by omega)).mono ?_
    rintro e w11 ⟨rfl, g11⟩
    have Z11 := hide g11.size
    have G11 := grown_trans G10 g11
    have W11 := own_grown W10 g11
    have Y11 := own_grown o10 g11
    clear W10 o10 G10 g11
    go_wp2_with fail
    refine (toIntS ao n cap zs w11 (hr.grown G11) hn).mono ?_
    rintro e w12 ⟨rfl, o12, g12⟩
    have Z12 := hide g12.size
    have G12 := grown_trans G11 g12
    have W12 := own_grown W11 g12
    have Y12 := own_grown Y11 g12
    have B12 : Hid (∀ k, Value.ownBlock _ = some k → w11.heap.size ≤ k ∧ k < w12.heap.size) := hide (fun k hk => o12.lt k hk)
    clear W11 Y11 G11 g12
    go_wp2_with fail
    refine (implFromYcc P _ n _ zs w12 (own_rd o12) L HL).mono ?_
    rintro e w13 ⟨Ho13, Hc13, rfl, o13, g13⟩
    have Z13 := hide g13.size
    have G13 := grown_trans G12 g13
    have W13 := own_grown W12 g13
    have Y13 := own_grown Y12 g13
    have Aa13 := own_grown o12 g13
    have B13 : Hid (∀ k, Value.ownBlock _ = some k → w12.heap.size ≤ k ∧ k < w13.heap.size) := hide (fun k hk => o13.lt k hk)
    clear W12 Y12 o12 G12 g13
    clear Aa13
    go_wp2_with fail
    refine (eqIntS _ _ _ _ _ L w13 (own_rd o13) (own_rd W13) hL).mono ?_
    rintro e w14 ⟨rfl, g14⟩
    have Z14 := hide g14.size
    have G14 := grown_trans G13 g14
    have W14 := own_grown W13 g14
    have Y14 := own_grown Y13 g14
    have H14 := own_grown o13 g14
    clear W13 Y13 o13 G13 g14
    clear H14
    clear W14
    go_wp2_with fail
    refine (heldIntS _ _ _ 1 w14 (own_rd Y14) hL (by omega) (by omega)).mono ?_
    rintro e w15 ⟨rfl, g15⟩
    have Z15 := hide g15.size
    have G15 := grown_trans G14 g15
    have Y15 := own_grown Y14 g15
    clear Y14 G14 g15
    go_wp2
    go_ret
    exact ⟨rfl, grown_below G15⟩

theorem lawFromYcc (P : Int) (ao : Option Addr) (n cap : Nat) (zs : List Int) (w : World) (hr : Rd .i64 w ao n zs) :
    Calls Try.prog 3 #[.int .i64 P, .slice ao n cap] w fun e w' => e = .returned (.bool true) ∧ Below w.heap.size w w' := by
  by_cases hbig : n ≤ 1048576
  · exact lawFromYcc_in P ao n cap zs w hr hbig
  · have hdec : decide ((1048576 : Int) < (n : Int)) = true := by simp; omega
    go_enter Try.func3, Try.ntmps3
    go_wp2
    go_ret
    exact ⟨rfl, Below.refl _ _⟩

end Go.Proofs.Ytgknninkfdgebaa
