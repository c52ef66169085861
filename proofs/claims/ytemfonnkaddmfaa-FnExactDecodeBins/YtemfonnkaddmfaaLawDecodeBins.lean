/-
  The walk of the law on DecodeBins.
-/
import Derived.Test.YtemfonnkaddmfaaBinForms
namespace Go.Proofs.Ytemfonnkaddmfaa
open Go.RowKit

set_option maxHeartbeats 3200000 in
theorem lawDecodeBins_in (HI : Hid ImplDec) (bo ao : Option Addr) (m n cap' cap : Nat) (xs zs : List Int) (w : World) (hx : Rd .u8 w bo m xs) (hr : Rd .i64 w ao n zs) (hb : ∀ i, 0 ≤ xs.getD i 0 ∧ xs.getD i 0 ≤ 255) (hbig : n ≤ 1048576) (hbig2 : m ≤ 1048576) :
    Calls Try.prog 6 #[.slice bo m cap', .slice ao n cap] w fun e w' => e = .returned (.bool true) ∧ Below w.heap.size w w' := by
  all_goals
    have hdec : decide ((1048576 : Int) < (n : Int)) = false := by simp; omega
    have hdec2 : decide ((1048576 : Int) < (m : Int)) = false := by simp; omega
    have hn : n ≤ 4194304 := by omega
    have hm : m ≤ 4194304 := by omega
    obtain ⟨L, HL⟩ : ∃ L, Hid (decG xs zs = L) := ⟨_, rfl⟩
    have hL : L.length ≤ 4194304 := by have := dec_short xs zs; rw [unhide HL] at this; omega
    go_enter Try.func6, Try.ntmps6
    go_wp2_with fail
    refine (toByteS bo m cap' xs w hx hm).mono ?_
    rintro e w1 ⟨rfl, o1, g1⟩
    have Z1 := hide g1.size
    have G1 := g1
    have B1 : Hid (∀ k, Value.ownBlock _ = some k → w.heap.size ≤ k ∧ k < w1.heap.size) := hide (fun k hk => o1.lt k hk)
    clear g1
    go_wp2_with fail
    refine (toIntS ao n cap zs w1 (hr.grown G1) hn).mono ?_
    rintro e w2 ⟨rfl, o2, g2⟩
    have Z2 := hide g2.size
    have G2 := grown_trans G1 g2
    have Aa2 := own_grown o1 g2
    have B2 : Hid (∀ k, Value.ownBlock _ = some k → w1.heap.size ≤ k ∧ k < w2.heap.size) := hide (fun k hk => o2.lt k hk)
    clear o1 G1 g2
    go_wp2_with fail
    refine (specDecL _ m _ xs _ n _ zs w2 (own_rd Aa2) (own_rd o2) hb L HL).mono ?_
    rintro e w3 ⟨Wo3, Wc3, rfl, o3, g3⟩
    have Z3 := hide g3.size
    have G3 := grown_trans G2 g3
    have Aa3 := own_grown Aa2 g3
    have Ab3 := own_grown o2 g3
    have B3 : Hid (∀ k, Value.ownBlock _ = some k → w2.heap.size ≤ k ∧ k < w3.heap.size) := hide (fun k hk => o3.lt k hk)
    clear Aa2 o2 G2 g3
    clear Aa3
    clear Ab3
    go_wp2_with fail
    refine (toByteS bo m cap' xs w3 (hx.grown G3) hm).mono ?_
    rintro e w4 ⟨rfl, o4, g4⟩
    have Z4 := hide g4.size
    have G4 := grown_trans G3 g4
    have W4 := own_grown o3 g4
    have B4 : Hid (∀ k, Value.ownBlock _ = some k → w3.heap.size ≤ k ∧ k < w4.heap.size) := hide (fun k hk => o4.lt k hk)
    clear o3 G3 g4
    go_wp2_with fail
    refine (toIntS ao n cap zs w4 (hr.grown G4) hn).mono ?_
    rintro e w5 ⟨rfl, o5, g5⟩
    have Z5 := hide g5.size
    have G5 := grown_trans G4 g5
    have W5 := own_grown W4 g5
    have Xa5 := own_grown o4 g5
    have B5 : Hid (∀ k, Value.ownBlock _ = some k → w4.heap.size ≤ k ∧ k < w5.heap.size) := hide (fun k hk => o5.lt k hk)
    clear W4 o4 G4 g5
    go_wp2_with fail
    refine (implDecL HI _ m _ xs _ n _ zs w5 (own_rd Xa5) (own_rd o5) hb hbig2 hbig L HL).mono ?_
    rintro e w6 ⟨Yo6, Yc6, rfl, o6, g6⟩
    have Z6 := hide g6.size
    have G6 := grown_trans G5 g6
    have W6 := own_grown W5 g6
    have Xa6 := own_grown Xa5 g6
    have Xb6 := own_grown o5 g6
    have B6 : Hid (∀ k, Value.ownBlock _ = some k → w5.heap.size ≤ k ∧ k < w6.heap.size) := hide (fun k hk => o6.lt k hk)
    clear W5 Xa5 o5 G5 g6
    go_wp2_with fail
    refine (eqIntS _ _ _ _ _ L w6 (own_rd o6) (own_rd W6) hL).mono ?_
    rintro e w7 ⟨rfl, g7⟩
    have Z7 := hide g7.size
    have G7 := grown_trans G6 g7
    have W7 := own_grown W6 g7
    have Xa7 := own_grown Xa6 g7
    have Xb7 := own_grown Xb6 g7
    have Y7 := own_grown o6 g7
    clear W6 Xa6 Xb6 o6 G6 g7
    go_wp2_with fail
    refine (toByteS bo m cap' xs w7 (hx.grown G7) hm).mono ?_
    rintro e w8 ⟨rfl, o8, g8⟩
    have Z8 := hide g8.size
    have G8 := grown_trans G7 g8
    have W8 := own_grown W7 g8
    have Xa8 := own_grown Xa7 g8
    have Xb8 := own_grown Xb7 g8
    have Y8 := own_grown Y7 g8
    have B8 : Hid (∀ k, Value.ownBlock _ = some k → w7.heap.size ≤ k ∧ k < w8.heap.size) := hide (fun k hk => o8.lt k hk)
    clear W7 Xa7 Xb7 Y7 G7 g8
    go_wp2_with fail
    refine (eqByteS _ _ _ _ _ xs w8 (own_rd Xa8) (own_rd o8) hm).mono ?_
    rintro e w9 ⟨rfl, g9⟩
    have Z9 := hide g9.size
    have G9 := grown_trans G8 g9
    have W9 := own_grown W8 g9
    have Xa9 := own_grown Xa8 g9
    have Xb9 := own_grown Xb8 g9
    have Y9 := own_grown Y8 g9
    have T9 := own_grown o8 g9
    clear W8 Xa8 Xb8 Y8 o8 G8 g9
    clear T9
    go_wp2_with fail
    refine (toIntS ao n cap zs w9 (hr.grown G9) hn).mono ?_
    rintro e w10 ⟨rfl, o10, g10⟩
    have Z10 := hide g10.size
    have G10 := grown_trans G9 g10
    have W10 := own_grown W9 g10
    have Xa10 := own_grown Xa9 g10
    have Xb10 := own_grown Xb9 g10
    have Y10 := own_grown Y9 g10
    have B10 : Hid (∀ k, Value.ownBlock _ = some k → w9.heap.size ≤ k ∧ k < w10.heap.size) := hide (fun k hk => o10.lt k hk)
    clear W9 Xa9 Xb9 Y9 G9 g10
    go_wp2_with fail
    refine (eqIntS _ _ _ _ _ zs w10 (own_rd Xb10) (own_rd o10) hn).mono ?_
    rintro e w11 ⟨rfl, g11⟩
    have Z11 := hide g11.size
    have G11 := grown_trans G10 g11
    have W11 := own_grown W10 g11
    have Xa11 := own_grown Xa10 g11
    have Xb11 := own_grown Xb10 g11
    have Y11 := own_grown Y10 g11
    have T11 := own_grown o10 g11
    clear W10 Xa10 Xb10 Y10 o10 G10 g11
    clear T11
    go_wp2_with fail
    refine (markByteS _ _ _ _ _ (1) w11 Xa11 hm (by omega) (by omega)).mono ?_
    rintro e w12 ⟨rfl, _, g12⟩
    have Z12 := hide g12.size
    have G12 := grown_new G11 g12 (fun g e => by have := unhide B4 g e; have := unhide Z1; have := unhide Z2; have := unhide Z3; have := unhide Z4; have := unhide Z5; have := unhide Z6; have := unhide Z7; have := unhide Z8; have := unhide Z9; have := unhide Z10; have := unhide Z11; have := unhide Z12; omega)
    have W12 := own_beneath W11 g12 (fun g g' h h' => by have := unhide B3 g h; have := unhide B4 g' h'; have := unhide Z1; have := unhide Z2; have := unhide Z3; have := unhide Z4; have := unhide Z5; have := unhide Z6; have := unhide Z7; have := unhide Z8; have := unhide Z9; have := unhide Z10; have := unhide Z11; have := unhide Z12; omega)
    have Xb12 := own_beneath Xb11 g12 (fun g g' h h' => by have := unhide B5 g h; have := unhide B4 g' h'; have := unhide Z1; have := unhide Z2; have := unhide Z3; have := unhide Z4; have := unhide Z5; have := unhide Z6; have := unhide Z7; have := unhide Z8; have := unhide Z9; have := unhide Z10; have := unhide Z11; have := unhide Z12; omega)
    have Y12 := own_beneath Y11 g12 (fun g g' h h' => by have := unhide B6 g h; have := unhide B4 g' h'; have := unhide Z1; have := unhide Z2; have := unhide Z3; have := unhide Z4; have := unhide Z5; have := unhide Z6; have := unhide Z7; have := unhide Z8; have := unhide Z9; have := unhide Z10; have := unhide Z11; have := unhide Z12; omega)
    clear W11 Xa11 Xb11 Y11 G11 g12
    go_wp2_with fail
    refine (markIntS _ _ _ _ _ (1 + (m : Int)) w12 Xb12 hn (by omega) (by omega)).mono ?_
    rintro e w13 ⟨rfl, _, g13⟩
    have Z13 := hide g13.size
    have G13 := grown_new G12 g13 (fun g e => by have := unhide B5 g e; have := unhide Z1; have := unhide Z2; have := unhide Z3; have := unhide Z4; have := unhide Z5; have := unhide Z6; have := unhide Z7; have := unhide Z8; have := unhide Z9; have := unhide Z10; have := unhide Z11; have := unhide Z12; have := unhide Z13; omega)
    have W13 := own_beneath W12 g13 (fun g g' h h' => by have := unhide B3 g h; have := unhide B5 g' h'; have := unhide Z1; have := unhide Z2; have := unhide Z3; have := unhide Z4; have := unhide Z5; have := unhide Z6; have := unhide Z7; have := unhide Z8; have := unhide Z9; have := unhide Z10; have := unhide Z11; have := unhide Z12; have := unhide Z13; omega)
    have Y13 := own_beneath Y12 g13 (fun g g' h h' => by have := unhide B6 g h; have := unhide B5 g' h'; have := unhide Z1; have := unhide Z2; have := unhide Z3; have := unhide Z4; have := unhide Z5; have := unhide Z6; have := unhide Z7; have := unhide Z8; have := unhide Z9; have := unhide Z10; have := unhide Z11; have := unhide Z12; have := unhide Z13; omega)
    clear W12 Xb12 Y12 G12 g13
    have hneg : decide ((1 + (m : Int) + (n : Int) : Int) < 0) = false := by simp; omega
    go_wp2_with fail
    refine (eqIntS _ _ _ _ _ L w13 (own_rd Y13) (own_rd W13) hL).mono ?_
    rintro e w14 ⟨rfl, g14⟩
    have Z14 := hide g14.size
    have G14 := grown_trans G13 g14
    have W14 := own_grown W13 g14
    have Y14 := own_grown Y13 g14
    clear W13 Y13 G13 g14
    go_wp2_with fail
    refine (markIntS _ _ _ _ _ 1 w14 Y14 hL (by omega) (by omega)).mono ?_
    rintro e w15 ⟨rfl, o15, g15⟩
    have Z15 := hide g15.size
    have G15 := grown_new G14 g15 (fun g e => by have := unhide B6 g e; have := unhide Z1; have := unhide Z2; have := unhide Z3; have := unhide Z4; have := unhide Z5; have := unhide Z6; have := unhide Z7; have := unhide Z8; have := unhide Z9; have := unhide Z10; have := unhide Z11; have := unhide Z12; have := unhide Z13; have := unhide Z14; have := unhide Z15; omega)
    have W15 := own_beneath W14 g15 (fun g g' h h' => by have := unhide B3 g h; have := unhide B6 g' h'; have := unhide Z1; have := unhide Z2; have := unhide Z3; have := unhide Z4; have := unhide Z5; have := unhide Z6; have := unhide Z7; have := unhide Z8; have := unhide Z9; have := unhide Z10; have := unhide Z11; have := unhide Z12; have := unhide Z13; have := unhide Z14; have := unhide Z15; omega)
    clear W14 Y14 G14 g15
    have hneg2 : decide ((1 + (L.length : Int)) < 0) = false := by simp; omega
    go_wp2_with fail
    refine (heldIntS _ _ _ 1 w15 (own_rd o15) hL (by omega) (by omega)).mono ?_
    rintro e w16 ⟨rfl, g16⟩
    have Z16 := hide g16.size
    have G16 := grown_trans G15 g16
    have W16 := own_grown W15 g16
    have Y16 := own_grown o15 g16
    clear W15 o15 G15 g16
    go_wp2_with fail
    refine (toByteS bo m cap' xs w16 (hx.grown G16) hm).mono ?_
    rintro e w17 ⟨rfl, o17, g17⟩
    have Z17 := hide g17.size
    have G17 := grown_trans G16 g17
    have W17 := own_grown W16 g17
    have Y17 := own_grown Y16 g17
    have B17 : Hid (∀ k, Value.ownBlock _ = some k → w16.heap.size ≤ k ∧ k < w17.heap.size) := hide (fun k hk => o17.lt k hk)
    clear W16 Y16 G16 g17
    go_wp2_with fail
    refine (toIntS ao n cap zs w17 (hr.grown G17) hn).mono ?_
    rintro e w18 ⟨rfl, o18, g18⟩
    have Z18 := hide g18.size
    have G18 := grown_trans G17 g18
    have W18 := own_grown W17 g18
    have Y18 := own_grown Y17 g18
    have Aa18 := own_grown o17 g18
    have B18 : Hid (∀ k, Value.ownBlock _ = some k → w17.heap.size ≤ k ∧ k < w18.heap.size) := hide (fun k hk => o18.lt k hk)
    clear W17 Y17 o17 G17 g18
    go_wp2_with fail
    refine (implDecL HI _ m _ xs _ n _ zs w18 (own_rd Aa18) (own_rd o18) hb hbig2 hbig L HL).mono ?_
    rintro e w19 ⟨Ho19, Hc19, rfl, o19, g19⟩
    have Z19 := hide g19.size
    have G19 := grown_trans G18 g19
    have W19 := own_grown W18 g19
    have Y19 := own_grown Y18 g19
    have Aa19 := own_grown Aa18 g19
    have Ab19 := own_grown o18 g19
    have B19 : Hid (∀ k, Value.ownBlock _ = some k → w18.heap.size ≤ k ∧ k < w19.heap.size) := hide (fun k hk => o19.lt k hk)
    clear W18 Y18 Aa18 o18 G18 g19
    clear Aa19
    clear Ab19
    go_wp2_with fail
    refine (eqIntS _ _ _ _ _ L w19 (own_rd o19) (own_rd W19) hL).mono ?_
    rintro e w20 ⟨rfl, g20⟩
    have Z20 := hide g20.size
    have G20 := grown_trans G19 g20
    have W20 := own_grown W19 g20
    have Y20 := own_grown Y19 g20
    have H20 := own_grown o19 g20
    clear W19 Y19 o19 G19 g20
    clear H20
    clear W20
    go_wp2_with fail
    refine (heldIntS _ _ _ 1 w20 (own_rd Y20) hL (by omega) (by omega)).mono ?_
    rintro e w21 ⟨rfl, g21⟩
    have Z21 := hide g21.size
    have G21 := grown_trans G20 g21
    have Y21 := own_grown Y20 g21
    clear Y20 G20 g21
    go_wp2
    go_ret
    exact ⟨rfl, grown_below G21⟩

theorem lawDecodeBins (HI : Hid ImplDec) (bo ao : Option Addr) (m n cap' cap : Nat) (xs zs : List Int) (w : World) (hx : Rd .u8 w bo m xs) (hr : Rd .i64 w ao n zs) (hb : ∀ i, 0 ≤ xs.getD i 0 ∧ xs.getD i 0 ≤ 255) :
    Calls Try.prog 6 #[.slice bo m cap', .slice ao n cap] w fun e w' => e = .returned (.bool true) ∧ Below w.heap.size w w' := by
  by_cases hbig2 : m ≤ 1048576
  · by_cases hbig : n ≤ 1048576
    · exact lawDecodeBins_in HI bo ao m n cap' cap xs zs w hx hr hb hbig hbig2
    · have hdec : decide ((1048576 : Int) < (n : Int)) = true := by simp; omega
      have hdec2 : decide ((1048576 : Int) < (m : Int)) = false := by simp; omega
      go_enter Try.func6, Try.ntmps6
      go_wp2
      go_ret
      exact ⟨rfl, Below.refl _ _⟩
  · have hdec2 : decide ((1048576 : Int) < (m : Int)) = true := by simp; omega
    go_enter Try.func6, Try.ntmps6
    go_wp2
    go_ret
    exact ⟨rfl, Below.refl _ _⟩

end Go.Proofs.Ytemfonnkaddmfaa
