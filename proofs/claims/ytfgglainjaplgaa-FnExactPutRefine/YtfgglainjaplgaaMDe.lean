/-
  LawPutRefine, LevelFix, PassFns, PassTables, AnyTake.
-/
import Derived.Test.YtfgglainjaplgaaMDd

namespace Go.Proofs.Ytfgglainjaplgaa
open Go.RowKit

set_option maxRecDepth 20000 in
set_option maxHeartbeats 6400000 in
theorem lawPutRefine (HI : Hid ImplPutR) (ao : Option Addr) (n cap : Nat) (zs : List Int) (v : Value) (a : Scn) (bo : Option Addr) (n2 cap2 : Nat) (ls : List Int) (w : World) (hr : Rd .i64 w ao n zs) (hmn : n ≤ maxLen) (hx : RdScZ w (scV v a) a) (hr2 : Rd .i64 w bo n2 ls) (hmn2 : n2 ≤ maxLen) :
    Calls Try.prog 7 #[.slice ao n cap, scV v a, .slice bo n2 cap2] w fun e w' => e = .returned (.bool true) ∧ Below w.heap.size w w' := by
  obtain ⟨cs, fr, to, hi, lo⟩ := a
  obtain ⟨xo, m, xc, rfl, hx0, hmx⟩ := scan_form hx
  have HX := hide hx0
  have HR := hide hr
  have HR2 := hide hr2
  unfold scV
  dsimp only
  obtain ⟨r, HSZ⟩ : ∃ r : Int, Hid ((if m ≤ 1048576 then (1048576 : Int) - m else -1) = r) := ⟨_, rfl⟩
  have HS1 := hide (fun W (h : w.grownBy W none) => szScan1 xo m xc cs fr to hi lo W (hx0.grown h) hmx r HSZ)
  unfold maxLen at *
  clear hr hx hx0 hr2
  have I0 := hide (In1s.start w #[.slice xo m xc, .int .i64 fr, .int .i64 to, .int .i64 hi, .int .i64 lo])
  have Z0 := hide (unhide I0).size
  have c0 := scanCells (unhide I0).sb
  by_cases hbig : n ≤ 1048576
  · have hdec : decide ((1048576 : Int) < (n : Int)) = false := by simp; omega
    have hn : n ≤ 4194304 := by omega
    by_cases hbig2 : n2 ≤ 1048576
    · have hdec2 : decide ((1048576 : Int) < (n2 : Int)) = false := by simp; omega
      have hn2 : n2 ≤ 4194304 := by omega
      by_cases hm : m ≤ 1048576
      · have hr1 : decide (r < 0) = false := decide_eq_false (by have := unhide HSZ; rw [if_pos hm] at this; omega)
        have hm4 : m ≤ 4194304 := by omega
        obtain ⟨L, HL⟩ : ∃ L, Hid (putRefineG zs ⟨cs, fr, to, hi, lo⟩ ls = L) := ⟨_, rfl⟩
        have hL64 : L.length ≤ 64 := by rw [← unhide HL]; exact putR_few _ _ _
        have hL : L.length ≤ 4194304 := by omega
        have hneg : decide (1 + (n : Int) + (m : Int) + (n2 : Int) < 0) = false := decide_eq_false (by omega)
        have hneg2 : decide (1 + (L.length : Int) < 0) = false := decide_eq_false (by omega)
        go_enter Try.func7, Try.ntmps7
        go_wp2_with fail
        generalize (w.alloc (.cells #[.slice xo m xc, .int .i64 fr, .int .i64 to, .int .i64 hi, .int .i64 lo] 45)) = wx at *
        refine (unhide HS1 wx (unhide I0).grown).mono ?_
        rintro e w1 ⟨rfl, g1⟩
        clear c0
        have Z1 := hide g1.size
        have I1 := hide ((unhide I0).new g1)
        clear I0 g1
        clear HS1
        go_wp2
        refine wp_region_noPanic ?_
        have gd := grown_drew (World.grownBy.refl w1 none)
        have Z2 := hide gd.size
        have I2 := hide ((unhide I1).new gd)
        clear I1 gd
        refine wp_region_tailL 20 (fun W => In1s w W #[.slice xo m xc, .int .i64 fr, .int .i64 to, .int .i64 hi, .int .i64 lo]) [true, false, true, false, true, false, false, false] (by kernel_rfl) (fun _ _ _ _ _ h => h) rfl (by decide) (by kernel_rfl) (unhide I2) ?_
        generalize w1.drew = w2 at *
        refine heldF_take (v := ?_) (Or.inl ⟨by rfl, ?_⟩) ?_
        rotate_left 1
        · intro w' hSw
          try dsimp only at hSw
          go_simp
          try with_reducible rfl
        simp only [Act.put, List.setIfInBounds_toArray, List.set_cons_zero, List.set_cons_succ]
        refine heldF_skip ?_
        refine heldF_take (v := ?_) (Or.inl ⟨by rfl, ?_⟩) ?_
        rotate_left 1
        · intro w' hSw
          try dsimp only at hSw
          have s1 := scanCells hSw.sb
          go_simp
          try with_reducible rfl
        simp only [Act.put, List.setIfInBounds_toArray, List.set_cons_zero, List.set_cons_succ]
        refine heldF_skip ?_
        refine heldF_take (v := ?_) (Or.inl ⟨by rfl, ?_⟩) ?_
        rotate_left 1
        · intro w' hSw
          try dsimp only at hSw
          go_simp
          try with_reducible rfl
        simp only [Act.put, List.setIfInBounds_toArray, List.set_cons_zero, List.set_cons_succ]
        refine heldF_skip ?_
        refine heldF_skip ?_
        refine heldF_skip ?_
        refine heldF_nil ?_
        refine tailL_skip ?_
        refine tailL_step (fun K hK => ?_)
        go_simp
        refine (toIntS ao n cap zs w2 ((unhide HR).grown (unhide I2).grown) hn).mono ?_
        rintro e w3 ⟨rfl, o3, g3⟩
        have B3 : Hid (∀ k, Value.ownBlock _ = some k → w2.heap.size ≤ k ∧ k < w3.heap.size) := hide (fun k hk => o3.lt k hk)
        have Aa_03 := hide o3
        clear o3
        have Z3 := hide g3.size
        have I3 := hide ((unhide I2).new g3)
        clear I2 g3
        go_simp
        refine hK.out _ _ (.inr (unhide I3)) ?_
        clear hK K
        refine tailL_skip ?_
        refine tailL_step (fun K hK => ?_)
        go_simp
        refine (toScan1 xo m xc cs fr to hi lo w3 ((unhide HX).grown (unhide I3).grown) hm).mono ?_
        rintro e w4 ⟨vo4, vc4, rfl, o4, b4, g4⟩
        have B4 : Hid (∀ k, Value.ownBlock _ = some k → w3.heap.size ≤ k ∧ k < w4.heap.size) := hide (fun k hk => b4 k hk)
        have Ab_04 := hide o4
        clear o4
        clear b4
        have Z4 := hide g4.size
        have I4 := hide ((unhide I3).new g4)
        have Aa_4 := hide (own_grown (unhide Aa_03) g4)
        clear I3 g4 Aa_03
        go_simp
        refine hK.out _ _ (.inr (unhide I4)) ?_
        clear hK K
        refine tailL_skip ?_
        refine tailL_step (fun K hK => ?_)
        go_simp
        refine (toIntS bo n2 cap2 ls w4 ((unhide HR2).grown (unhide I4).grown) hn2).mono ?_
        rintro e w5 ⟨rfl, o5, g5⟩
        have B5 : Hid (∀ k, Value.ownBlock _ = some k → w4.heap.size ≤ k ∧ k < w5.heap.size) := hide (fun k hk => o5.lt k hk)
        have Ac_05 := hide o5
        clear o5
        have Z5 := hide g5.size
        have I5 := hide ((unhide I4).new g5)
        have Aa_5 := hide (own_grown (unhide Aa_4) g5)
        have Ab_5 := hide (own_grown (unhide Ab_04) g5)
        clear I4 g5 Aa_4 Ab_04
        go_simp
        refine hK.out _ _ (.inr (unhide I5)) ?_
        clear hK K
        refine tailL_step (fun K hK => ?_)
        go_simp
        have HC := specPutRefine _ n n zs w5 (own_rd (unhide Aa_5)) vo4 m vc4 ⟨cs, fr, to, hi, lo⟩ _ n2 n2 ls (own_rd (unhide Ac_05)) hn2 L HL
        dsimp only at HC
        refine HC.mono ?_
        rintro e w6 ⟨so6, sc6, rfl, o6, g6⟩
        clear HC
        have B6 : Hid (∀ k, Value.ownBlock _ = some k → w5.heap.size ≤ k ∧ k < w6.heap.size) := hide (fun k hk => o6.lt k hk)
        have W_06 := hide o6
        clear o6
        clear Aa_5
        clear Ab_5
        clear Ac_05
        have Z6 := hide g6.size
        have I6 := hide ((unhide I5).new g6)
        clear I5 g6
        go_simp
        refine hK.out _ _ (.inr (unhide I6)) ?_
        clear hK K
        refine tailL_step (fun K hK => ?_)
        go_simp
        go_simp
        refine hK.out _ _ (.inl rfl) ?_
        clear hK K
        refine tailL_nil (NoPanic.normal ?_)
        go_wp2_with fail
        refine (toIntS ao n cap zs w6 ((unhide HR).grown (unhide I6).grown) hn).mono ?_
        rintro e w7 ⟨rfl, o7, g7⟩
        have B7 : Hid (∀ k, Value.ownBlock _ = some k → w6.heap.size ≤ k ∧ k < w7.heap.size) := hide (fun k hk => o7.lt k hk)
        have Xa_07 := hide o7
        clear o7
        have Z7 := hide g7.size
        have I7 := hide ((unhide I6).new g7)
        have W_7 := hide (own_grown (unhide W_06) g7)
        clear I6 g7 W_06
        have c0 := scanCells (unhide I7).sb
        go_wp2_with fail
        refine (toScan1 xo m xc cs fr to hi lo w7 ((unhide HX).grown (unhide I7).grown) hm).mono ?_
        rintro e w8 ⟨vo8, vc8, rfl, o8, b8, g8⟩
        have B8 : Hid (∀ k, Value.ownBlock _ = some k → w7.heap.size ≤ k ∧ k < w8.heap.size) := hide (fun k hk => b8 k hk)
        have Xb_08 := hide o8
        clear o8
        clear b8
        have Z8 := hide g8.size
        have I8 := hide ((unhide I7).new g8)
        have W_8 := hide (own_grown (unhide W_7) g8)
        have Xa_8 := hide (own_grown (unhide Xa_07) g8)
        clear I7 g8 W_7 Xa_07
        clear c0
        have gb := World.grownBy_alloc w8 (.cells #[.slice vo8 m vc8, .int .i64 fr, .int .i64 to, .int .i64 hi, .int .i64 lo] 26) none
        have hxb := heap_alloc_new w8 (.cells #[.slice vo8 m vc8, .int .i64 fr, .int .i64 to, .int .i64 hi, .int .i64 lo] 26)
        have ZB := hide (show w8.heap.size < (w8.alloc (.cells #[.slice vo8 m vc8, .int .i64 fr, .int .i64 to, .int .i64 hi, .int .i64 lo] 26)).heap.size by simp)
        have Z9 := hide gb.size
        have I9 := hide ((unhide I8).new gb)
        have W_9 := hide (own_grown (unhide W_8) gb)
        have Xa_9 := hide (own_grown (unhide Xa_8) gb)
        have Xb_9 := hide (own_grown (unhide Xb_08) gb)
        clear I8 gb W_8 Xa_8 Xb_08
        have XB_n := hide hxb
        clear hxb
        go_wp2_with fail
        generalize (w8.alloc (.cells #[.slice vo8 m vc8, .int .i64 fr, .int .i64 to, .int .i64 hi, .int .i64 lo] 26)) = w9 at *
        refine (toIntS bo n2 cap2 ls w9 ((unhide HR2).grown (unhide I9).grown) hn2).mono ?_
        rintro e w10 ⟨rfl, o10, g10⟩
        have B10 : Hid (∀ k, Value.ownBlock _ = some k → w9.heap.size ≤ k ∧ k < w10.heap.size) := hide (fun k hk => o10.lt k hk)
        have Xc_010 := hide o10
        clear o10
        have Z10 := hide g10.size
        have I10 := hide ((unhide I9).new g10)
        have W_10 := hide (own_grown (unhide W_9) g10)
        have Xa_10 := hide (own_grown (unhide Xa_9) g10)
        have Xb_10 := hide (own_grown (unhide Xb_9) g10)
        have XB_10 := hide (grown_atT g10 (unhide XB_n) (by simp))
        clear I9 g10 W_9 Xa_9 Xb_9 XB_n
        have c0 := scanCells (unhide XB_10)
        go_wp2_with fail
        clear c0
        have HC := unhide HI _ n n zs w10 (own_rd (unhide Xa_10)) hbig vo8 m vc8 ⟨cs, fr, to, hi, lo⟩ (own_rd (unhide Xb_10)) hm _ n2 n2 ls (own_rd (unhide Xc_010)) hbig2 L HL
        dsimp only at HC
        refine HC.mono ?_
        rintro e w11 ⟨so11, sc11, rfl, o11, g11⟩
        clear HC
        have B11 : Hid (∀ k, Value.ownBlock _ = some k → w10.heap.size ≤ k ∧ k < w11.heap.size) := hide (fun k hk => o11.lt k hk)
        have Y_011 := hide o11
        clear o11
        have Z11 := hide g11.size
        have I11 := hide ((unhide I10).new g11)
        have W_11 := hide (own_grown (unhide W_10) g11)
        have Xa_11 := hide (own_grown (unhide Xa_10) g11)
        have Xb_11 := hide (own_grown (unhide Xb_10) g11)
        have Xc_11 := hide (own_grown (unhide Xc_010) g11)
        have XB_11 := hide (grown_atT g11 (unhide XB_10) (by simp))
        clear I10 g11 W_10 Xa_10 Xb_10 Xc_010 XB_10
        go_wp2_with fail
        refine (eqIntS _ _ L.length _ _ L w11 (own_rd (unhide Y_011)) (own_rd (unhide W_11)) hL).mono ?_
        rintro e w12 ⟨rfl, g12⟩
        have Z12 := hide g12.size
        have I12 := hide ((unhide I11).new g12)
        have W_12 := hide (own_grown (unhide W_11) g12)
        have Xa_12 := hide (own_grown (unhide Xa_11) g12)
        have Xb_12 := hide (own_grown (unhide Xb_11) g12)
        have Xc_12 := hide (own_grown (unhide Xc_11) g12)
        have Y_12 := hide (own_grown (unhide Y_011) g12)
        have XB_12 := hide (grown_atT g12 (unhide XB_11) (by simp))
        clear I11 g12 W_11 Xa_11 Xb_11 Xc_11 Y_011 XB_11
        go_wp2_with fail
        refine (toIntS ao n cap zs w12 ((unhide HR).grown (unhide I12).grown) hn).mono ?_
        rintro e w13 ⟨rfl, o13, g13⟩
        have B13 : Hid (∀ k, Value.ownBlock _ = some k → w12.heap.size ≤ k ∧ k < w13.heap.size) := hide (fun k hk => o13.lt k hk)
        have T_013 := hide o13
        clear o13
        have Z13 := hide g13.size
        have I13 := hide ((unhide I12).new g13)
        have W_13 := hide (own_grown (unhide W_12) g13)
        have Xa_13 := hide (own_grown (unhide Xa_12) g13)
        have Xb_13 := hide (own_grown (unhide Xb_12) g13)
        have Xc_13 := hide (own_grown (unhide Xc_12) g13)
        have Y_13 := hide (own_grown (unhide Y_12) g13)
        have XB_13 := hide (grown_atT g13 (unhide XB_12) (by simp))
        clear I12 g13 W_12 Xa_12 Xb_12 Xc_12 Y_12 XB_12
        go_wp2_with fail
        refine (eqIntS _ _ n _ _ zs w13 (own_rd (unhide Xa_13)) (own_rd (unhide T_013)) hn).mono ?_
        rintro e w14 ⟨rfl, g14⟩
        have Z14 := hide g14.size
        have I14 := hide ((unhide I13).new g14)
        have W_14 := hide (own_grown (unhide W_13) g14)
        have Xa_14 := hide (own_grown (unhide Xa_13) g14)
        have Xb_14 := hide (own_grown (unhide Xb_13) g14)
        have Xc_14 := hide (own_grown (unhide Xc_13) g14)
        have Y_14 := hide (own_grown (unhide Y_13) g14)
        have T_14 := hide (own_grown (unhide T_013) g14)
        have XB_14 := hide (grown_atT g14 (unhide XB_13) (by simp))
        clear I13 g14 W_13 Xa_13 Xb_13 Xc_13 Y_13 T_013 XB_13
        clear T_14
        go_wp2
        refine wp_region_noPanic ?_
        have gd := grown_drew (World.grownBy.refl w14 none)
        have Z15 := hide gd.size
        have I15 := hide ((unhide I14).new gd)
        have W_15 := hide (own_grown (unhide W_14) gd)
        have Xa_15 := hide (own_grown (unhide Xa_14) gd)
        have Xb_15 := hide (own_grown (unhide Xb_14) gd)
        have Xc_15 := hide (own_grown (unhide Xc_14) gd)
        have Y_15 := hide (own_grown (unhide Y_14) gd)
        have XB_15 := hide (grown_atT gd (unhide XB_14) (by simp))
        clear I14 gd W_14 Xa_14 Xb_14 Xc_14 Y_14 XB_14
        refine wp_region_tailL 20 (fun W => In1s w W #[.slice xo m xc, .int .i64 fr, .int .i64 to, .int .i64 hi, .int .i64 lo] ∧ W.heap[w8.heap.size]? = some (.cells #[.slice vo8 m vc8, .int .i64 fr, .int .i64 to, .int .i64 hi, .int .i64 lo] 26 (0, 0))) [true, true, false, false, false] (by kernel_rfl) (fun _ _ _ _ _ h => h) rfl (by decide) (by kernel_rfl) ⟨(unhide I15), unhide XB_15⟩ ?_
        generalize w14.drew = w15 at *
        refine heldF_take (v := ?_) (Or.inl ⟨by rfl, ?_⟩) ?_
        rotate_left 1
        · intro w' hSw
          try dsimp only at hSw
          have s1 := scanCells hSw.2
          go_simp
          try with_reducible rfl
        simp only [Act.put, List.setIfInBounds_toArray, List.set_cons_zero, List.set_cons_succ]
        refine heldF_take (v := ?_) (Or.inl ⟨by rfl, ?_⟩) ?_
        rotate_left 1
        · intro w' hSw
          try dsimp only at hSw
          have s1 := scanCells hSw.1.sb
          go_simp
          try with_reducible rfl
        simp only [Act.put, List.setIfInBounds_toArray, List.set_cons_zero, List.set_cons_succ]
        refine heldF_skip ?_
        refine heldF_skip ?_
        refine heldF_skip ?_
        refine heldF_nil ?_
        refine tailL_skip ?_
        refine tailL_skip ?_
        refine tailL_step (fun K hK => ?_)
        go_simp
        refine (toScan1 xo m xc cs fr to hi lo w15 ((unhide HX).grown (unhide I15).grown) hm).mono ?_
        rintro e w16 ⟨vo16, vc16, rfl, o16, b16, g16⟩
        have B16 : Hid (∀ k, Value.ownBlock _ = some k → w15.heap.size ≤ k ∧ k < w16.heap.size) := hide (fun k hk => b16 k hk)
        have T_016 := hide o16
        clear o16
        clear b16
        have Z16 := hide g16.size
        have I16 := hide ((unhide I15).new g16)
        have W_16 := hide (own_grown (unhide W_15) g16)
        have Xa_16 := hide (own_grown (unhide Xa_15) g16)
        have Xb_16 := hide (own_grown (unhide Xb_15) g16)
        have Xc_16 := hide (own_grown (unhide Xc_15) g16)
        have Y_16 := hide (own_grown (unhide Y_15) g16)
        have XB_16 := hide (grown_atT g16 (unhide XB_15) (by simp))
        clear I15 g16 W_15 Xa_15 Xb_15 Xc_15 Y_15 XB_15
        go_simp
        refine hK.out _ _ (.inr ⟨(unhide I16), unhide XB_16⟩) ?_
        clear hK K
        refine tailL_step (fun K hK => ?_)
        go_simp
        refine (eqScan1 vo8 vo16 m vc8 vc16 cs fr to hi lo w16 (own_rd (unhide Xb_16)) (own_rd (unhide T_016)) hm).mono ?_
        rintro e w17 ⟨rfl, g17⟩
        have Z17 := hide g17.size
        have I17 := hide ((unhide I16).new g17)
        have W_17 := hide (own_grown (unhide W_16) g17)
        have Xa_17 := hide (own_grown (unhide Xa_16) g17)
        have Xb_17 := hide (own_grown (unhide Xb_16) g17)
        have Xc_17 := hide (own_grown (unhide Xc_16) g17)
        have Y_17 := hide (own_grown (unhide Y_16) g17)
        have T_17 := hide (own_grown (unhide T_016) g17)
        have XB_17 := hide (grown_atT g17 (unhide XB_16) (by simp))
        clear I16 g17 W_16 Xa_16 Xb_16 Xc_16 Y_16 T_016 XB_16
        clear T_17
        go_simp
        refine hK.out _ _ (.inr ⟨(unhide I17), unhide XB_17⟩) ?_
        clear hK K
        refine tailL_step (fun K hK => ?_)
        go_simp
        go_simp
        refine hK.out _ _ (.inl rfl) ?_
        clear hK K
        refine tailL_nil (NoPanic.normal ?_)
        go_wp2_with fail
        refine (toIntS bo n2 cap2 ls w17 ((unhide HR2).grown (unhide I17).grown) hn2).mono ?_
        rintro e w18 ⟨rfl, o18, g18⟩
        have B18 : Hid (∀ k, Value.ownBlock _ = some k → w17.heap.size ≤ k ∧ k < w18.heap.size) := hide (fun k hk => o18.lt k hk)
        have T_018 := hide o18
        clear o18
        have Z18 := hide g18.size
        have I18 := hide ((unhide I17).new g18)
        have W_18 := hide (own_grown (unhide W_17) g18)
        have Xa_18 := hide (own_grown (unhide Xa_17) g18)
        have Xb_18 := hide (own_grown (unhide Xb_17) g18)
        have Xc_18 := hide (own_grown (unhide Xc_17) g18)
        have Y_18 := hide (own_grown (unhide Y_17) g18)
        have XB_18 := hide (grown_atT g18 (unhide XB_17) (by simp))
        clear I17 g18 W_17 Xa_17 Xb_17 Xc_17 Y_17 XB_17
        go_wp2_with fail
        refine (eqIntS _ _ n2 _ _ ls w18 (own_rd (unhide Xc_18)) (own_rd (unhide T_018)) hn2).mono ?_
        rintro e w19 ⟨rfl, g19⟩
        have Z19 := hide g19.size
        have I19 := hide ((unhide I18).new g19)
        have W_19 := hide (own_grown (unhide W_18) g19)
        have Xa_19 := hide (own_grown (unhide Xa_18) g19)
        have Xb_19 := hide (own_grown (unhide Xb_18) g19)
        have Xc_19 := hide (own_grown (unhide Xc_18) g19)
        have Y_19 := hide (own_grown (unhide Y_18) g19)
        have T_19 := hide (own_grown (unhide T_018) g19)
        have XB_19 := hide (grown_atT g19 (unhide XB_18) (by simp))
        clear I18 g19 W_18 Xa_18 Xb_18 Xc_18 Y_18 T_018 XB_18
        clear T_19
        go_wp2_with fail
        refine (markIntS _ _ _ _ _ 1 w19 (unhide Xa_19) hn (by omega) (by omega)).mono ?_
        rintro e w20 ⟨rfl, _, g20⟩
        have Z20 := hide g20.size
        have I20 := hide ((unhide I19).wrR g20 (fun g e => by have := unhide B7 g e; have := unhide Z0; have := unhide Z1; have := unhide Z2; have := unhide Z3; have := unhide Z4; have := unhide Z5; have := unhide Z6; have := unhide Z7; have := unhide Z8; have := unhide ZB; have := unhide Z9; have := unhide Z10; have := unhide Z11; have := unhide Z12; have := unhide Z13; have := unhide Z14; have := unhide Z15; have := unhide Z16; have := unhide Z17; have := unhide Z18; have := unhide Z19; have := unhide Z20; omega))
        have W_20 := hide (own_beneath (unhide W_19) g20 (fun g g' h h' => by have := unhide B6 g h; have := unhide B7 g' h'; have := unhide Z0; have := unhide Z1; have := unhide Z2; have := unhide Z3; have := unhide Z4; have := unhide Z5; have := unhide Z6; have := unhide Z7; have := unhide Z8; have := unhide ZB; have := unhide Z9; have := unhide Z10; have := unhide Z11; have := unhide Z12; have := unhide Z13; have := unhide Z14; have := unhide Z15; have := unhide Z16; have := unhide Z17; have := unhide Z18; have := unhide Z19; have := unhide Z20; omega))
        have Xb_20 := hide (own_beneath (unhide Xb_19) g20 (fun g g' h h' => by have := unhide B8 g h; have := unhide B7 g' h'; have := unhide Z0; have := unhide Z1; have := unhide Z2; have := unhide Z3; have := unhide Z4; have := unhide Z5; have := unhide Z6; have := unhide Z7; have := unhide Z8; have := unhide ZB; have := unhide Z9; have := unhide Z10; have := unhide Z11; have := unhide Z12; have := unhide Z13; have := unhide Z14; have := unhide Z15; have := unhide Z16; have := unhide Z17; have := unhide Z18; have := unhide Z19; have := unhide Z20; omega))
        have Xc_20 := hide (own_beneath (unhide Xc_19) g20 (fun g g' h h' => by have := unhide B10 g h; have := unhide B7 g' h'; have := unhide Z0; have := unhide Z1; have := unhide Z2; have := unhide Z3; have := unhide Z4; have := unhide Z5; have := unhide Z6; have := unhide Z7; have := unhide Z8; have := unhide ZB; have := unhide Z9; have := unhide Z10; have := unhide Z11; have := unhide Z12; have := unhide Z13; have := unhide Z14; have := unhide Z15; have := unhide Z16; have := unhide Z17; have := unhide Z18; have := unhide Z19; have := unhide Z20; omega))
        have Y_20 := hide (own_beneath (unhide Y_19) g20 (fun g g' h h' => by have := unhide B11 g h; have := unhide B7 g' h'; have := unhide Z0; have := unhide Z1; have := unhide Z2; have := unhide Z3; have := unhide Z4; have := unhide Z5; have := unhide Z6; have := unhide Z7; have := unhide Z8; have := unhide ZB; have := unhide Z9; have := unhide Z10; have := unhide Z11; have := unhide Z12; have := unhide Z13; have := unhide Z14; have := unhide Z15; have := unhide Z16; have := unhide Z17; have := unhide Z18; have := unhide Z19; have := unhide Z20; omega))
        have XB_20 := hide (grown_atT g20 (unhide XB_19) (fun e => by have := unhide B7 _ e; have := unhide Z0; have := unhide Z1; have := unhide Z2; have := unhide Z3; have := unhide Z4; have := unhide Z5; have := unhide Z6; have := unhide Z7; have := unhide Z8; have := unhide ZB; have := unhide Z9; have := unhide Z10; have := unhide Z11; have := unhide Z12; have := unhide Z13; have := unhide Z14; have := unhide Z15; have := unhide Z16; have := unhide Z17; have := unhide Z18; have := unhide Z19; have := unhide Z20; omega))
        clear I19 g20 W_19 Xa_19 Xb_19 Xc_19 Y_19 XB_19
        have c0 := scanCells (unhide XB_20)
        go_wp2_with fail
        refine (markScan1 _ m _ _ _ fr to hi lo (1 + (n : Int)) w20 (unhide Xb_20) hm4 (by omega) (by omega)).mono ?_
        rintro e w21 ⟨rfl, g21⟩
        clear c0
        have Z21 := hide g21.size
        have I21 := hide ((unhide I20).wrR g21 (fun g e => by have := unhide B8 g e; have := unhide Z0; have := unhide Z1; have := unhide Z2; have := unhide Z3; have := unhide Z4; have := unhide Z5; have := unhide Z6; have := unhide Z7; have := unhide Z8; have := unhide ZB; have := unhide Z9; have := unhide Z10; have := unhide Z11; have := unhide Z12; have := unhide Z13; have := unhide Z14; have := unhide Z15; have := unhide Z16; have := unhide Z17; have := unhide Z18; have := unhide Z19; have := unhide Z20; have := unhide Z21; omega))
        have W_21 := hide (own_beneath (unhide W_20) g21 (fun g g' h h' => by have := unhide B6 g h; have := unhide B8 g' h'; have := unhide Z0; have := unhide Z1; have := unhide Z2; have := unhide Z3; have := unhide Z4; have := unhide Z5; have := unhide Z6; have := unhide Z7; have := unhide Z8; have := unhide ZB; have := unhide Z9; have := unhide Z10; have := unhide Z11; have := unhide Z12; have := unhide Z13; have := unhide Z14; have := unhide Z15; have := unhide Z16; have := unhide Z17; have := unhide Z18; have := unhide Z19; have := unhide Z20; have := unhide Z21; omega))
        have Xc_21 := hide (own_beneath (unhide Xc_20) g21 (fun g g' h h' => by have := unhide B10 g h; have := unhide B8 g' h'; have := unhide Z0; have := unhide Z1; have := unhide Z2; have := unhide Z3; have := unhide Z4; have := unhide Z5; have := unhide Z6; have := unhide Z7; have := unhide Z8; have := unhide ZB; have := unhide Z9; have := unhide Z10; have := unhide Z11; have := unhide Z12; have := unhide Z13; have := unhide Z14; have := unhide Z15; have := unhide Z16; have := unhide Z17; have := unhide Z18; have := unhide Z19; have := unhide Z20; have := unhide Z21; omega))
        have Y_21 := hide (own_beneath (unhide Y_20) g21 (fun g g' h h' => by have := unhide B11 g h; have := unhide B8 g' h'; have := unhide Z0; have := unhide Z1; have := unhide Z2; have := unhide Z3; have := unhide Z4; have := unhide Z5; have := unhide Z6; have := unhide Z7; have := unhide Z8; have := unhide ZB; have := unhide Z9; have := unhide Z10; have := unhide Z11; have := unhide Z12; have := unhide Z13; have := unhide Z14; have := unhide Z15; have := unhide Z16; have := unhide Z17; have := unhide Z18; have := unhide Z19; have := unhide Z20; have := unhide Z21; omega))
        have XB_21 := hide (grown_atT g21 (unhide XB_20) (fun e => by have := unhide B8 _ e; have := unhide Z0; have := unhide Z1; have := unhide Z2; have := unhide Z3; have := unhide Z4; have := unhide Z5; have := unhide Z6; have := unhide Z7; have := unhide Z8; have := unhide ZB; have := unhide Z9; have := unhide Z10; have := unhide Z11; have := unhide Z12; have := unhide Z13; have := unhide Z14; have := unhide Z15; have := unhide Z16; have := unhide Z17; have := unhide Z18; have := unhide Z19; have := unhide Z20; have := unhide Z21; omega))
        clear I20 g21 W_20 Xb_20 Xc_20 Y_20 XB_20
        go_wp2_with fail
        refine (markIntS _ _ _ _ _ (1 + (n : Int) + (m : Int)) w21 (unhide Xc_21) hn2 (by omega) (by omega)).mono ?_
        rintro e w22 ⟨rfl, _, g22⟩
        have Z22 := hide g22.size
        have I22 := hide ((unhide I21).wrR g22 (fun g e => by have := unhide B10 g e; have := unhide Z0; have := unhide Z1; have := unhide Z2; have := unhide Z3; have := unhide Z4; have := unhide Z5; have := unhide Z6; have := unhide Z7; have := unhide Z8; have := unhide ZB; have := unhide Z9; have := unhide Z10; have := unhide Z11; have := unhide Z12; have := unhide Z13; have := unhide Z14; have := unhide Z15; have := unhide Z16; have := unhide Z17; have := unhide Z18; have := unhide Z19; have := unhide Z20; have := unhide Z21; have := unhide Z22; omega))
        have W_22 := hide (own_beneath (unhide W_21) g22 (fun g g' h h' => by have := unhide B6 g h; have := unhide B10 g' h'; have := unhide Z0; have := unhide Z1; have := unhide Z2; have := unhide Z3; have := unhide Z4; have := unhide Z5; have := unhide Z6; have := unhide Z7; have := unhide Z8; have := unhide ZB; have := unhide Z9; have := unhide Z10; have := unhide Z11; have := unhide Z12; have := unhide Z13; have := unhide Z14; have := unhide Z15; have := unhide Z16; have := unhide Z17; have := unhide Z18; have := unhide Z19; have := unhide Z20; have := unhide Z21; have := unhide Z22; omega))
        have Y_22 := hide (own_beneath (unhide Y_21) g22 (fun g g' h h' => by have := unhide B11 g h; have := unhide B10 g' h'; have := unhide Z0; have := unhide Z1; have := unhide Z2; have := unhide Z3; have := unhide Z4; have := unhide Z5; have := unhide Z6; have := unhide Z7; have := unhide Z8; have := unhide ZB; have := unhide Z9; have := unhide Z10; have := unhide Z11; have := unhide Z12; have := unhide Z13; have := unhide Z14; have := unhide Z15; have := unhide Z16; have := unhide Z17; have := unhide Z18; have := unhide Z19; have := unhide Z20; have := unhide Z21; have := unhide Z22; omega))
        have XB_22 := hide (grown_atT g22 (unhide XB_21) (fun e => by have := unhide B10 _ e; have := unhide Z0; have := unhide Z1; have := unhide Z2; have := unhide Z3; have := unhide Z4; have := unhide Z5; have := unhide Z6; have := unhide Z7; have := unhide Z8; have := unhide ZB; have := unhide Z9; have := unhide Z10; have := unhide Z11; have := unhide Z12; have := unhide Z13; have := unhide Z14; have := unhide Z15; have := unhide Z16; have := unhide Z17; have := unhide Z18; have := unhide Z19; have := unhide Z20; have := unhide Z21; have := unhide Z22; omega))
        clear I21 g22 W_21 Xc_21 Y_21 XB_21
        go_wp2_with fail
        refine (eqIntS _ _ L.length _ _ L w22 (own_rd (unhide Y_22)) (own_rd (unhide W_22)) hL).mono ?_
        rintro e w23 ⟨rfl, g23⟩
        have Z23 := hide g23.size
        have I23 := hide ((unhide I22).new g23)
        have W_23 := hide (own_grown (unhide W_22) g23)
        have Y_23 := hide (own_grown (unhide Y_22) g23)
        have XB_23 := hide (grown_atT g23 (unhide XB_22) (by simp))
        clear I22 g23 W_22 Y_22 XB_22
        go_wp2_with fail
        refine (markIntS _ _ _ _ _ 1 w23 (unhide Y_23) hL (by omega) (by omega)).mono ?_
        rintro e w24 ⟨rfl, o24, g24⟩
        have Z24 := hide g24.size
        have I24 := hide ((unhide I23).wrR g24 (fun g e => by have := unhide B11 g e; have := unhide Z0; have := unhide Z1; have := unhide Z2; have := unhide Z3; have := unhide Z4; have := unhide Z5; have := unhide Z6; have := unhide Z7; have := unhide Z8; have := unhide ZB; have := unhide Z9; have := unhide Z10; have := unhide Z11; have := unhide Z12; have := unhide Z13; have := unhide Z14; have := unhide Z15; have := unhide Z16; have := unhide Z17; have := unhide Z18; have := unhide Z19; have := unhide Z20; have := unhide Z21; have := unhide Z22; have := unhide Z23; have := unhide Z24; omega))
        have W_24 := hide (own_beneath (unhide W_23) g24 (fun g g' h h' => by have := unhide B6 g h; have := unhide B11 g' h'; have := unhide Z0; have := unhide Z1; have := unhide Z2; have := unhide Z3; have := unhide Z4; have := unhide Z5; have := unhide Z6; have := unhide Z7; have := unhide Z8; have := unhide ZB; have := unhide Z9; have := unhide Z10; have := unhide Z11; have := unhide Z12; have := unhide Z13; have := unhide Z14; have := unhide Z15; have := unhide Z16; have := unhide Z17; have := unhide Z18; have := unhide Z19; have := unhide Z20; have := unhide Z21; have := unhide Z22; have := unhide Z23; have := unhide Z24; omega))
        have XB_24 := hide (grown_atT g24 (unhide XB_23) (fun e => by have := unhide B11 _ e; have := unhide Z0; have := unhide Z1; have := unhide Z2; have := unhide Z3; have := unhide Z4; have := unhide Z5; have := unhide Z6; have := unhide Z7; have := unhide Z8; have := unhide ZB; have := unhide Z9; have := unhide Z10; have := unhide Z11; have := unhide Z12; have := unhide Z13; have := unhide Z14; have := unhide Z15; have := unhide Z16; have := unhide Z17; have := unhide Z18; have := unhide Z19; have := unhide Z20; have := unhide Z21; have := unhide Z22; have := unhide Z23; have := unhide Z24; omega))
        clear I23 g24 W_23 Y_23 XB_23
        have Y_m := hide o24
        clear o24
        go_wp2_with fail
        refine (heldIntS _ _ _ 1 w24 (own_rd (unhide Y_m)) hL (by omega) (by omega)).mono ?_
        rintro e w25 ⟨rfl, g25⟩
        have Z25 := hide g25.size
        have I25 := hide ((unhide I24).new g25)
        have W_25 := hide (own_grown (unhide W_24) g25)
        have Y_25 := hide (own_grown (unhide Y_m) g25)
        have XB_25 := hide (grown_atT g25 (unhide XB_24) (by simp))
        clear I24 g25 W_24 Y_m XB_24
        go_wp2
        refine wp_region_noPanic ?_
        have gd := grown_drew (World.grownBy.refl w25 none)
        have Z26 := hide gd.size
        have I26 := hide ((unhide I25).new gd)
        have W_26 := hide (own_grown (unhide W_25) gd)
        have Y_26 := hide (own_grown (unhide Y_25) gd)
        have XB_26 := hide (grown_atT gd (unhide XB_25) (by simp))
        clear I25 gd W_25 Y_25 XB_25
        refine wp_region_tailL 20 (fun W => In1s w W #[.slice xo m xc, .int .i64 fr, .int .i64 to, .int .i64 hi, .int .i64 lo]) [true, false, true, false, true, false, false, false] (by kernel_rfl) (fun _ _ _ _ _ h => h) rfl (by decide) (by kernel_rfl) (unhide I26) ?_
        generalize w25.drew = w26 at *
        refine heldF_take (v := ?_) (Or.inl ⟨by rfl, ?_⟩) ?_
        rotate_left 1
        · intro w' hSw
          try dsimp only at hSw
          go_simp
          try with_reducible rfl
        simp only [Act.put, List.setIfInBounds_toArray, List.set_cons_zero, List.set_cons_succ]
        refine heldF_skip ?_
        refine heldF_take (v := ?_) (Or.inl ⟨by rfl, ?_⟩) ?_
        rotate_left 1
        · intro w' hSw
          try dsimp only at hSw
          have s1 := scanCells hSw.sb
          go_simp
          try with_reducible rfl
        simp only [Act.put, List.setIfInBounds_toArray, List.set_cons_zero, List.set_cons_succ]
        refine heldF_skip ?_
        refine heldF_take (v := ?_) (Or.inl ⟨by rfl, ?_⟩) ?_
        rotate_left 1
        · intro w' hSw
          try dsimp only at hSw
          go_simp
          try with_reducible rfl
        simp only [Act.put, List.setIfInBounds_toArray, List.set_cons_zero, List.set_cons_succ]
        refine heldF_skip ?_
        refine heldF_skip ?_
        refine heldF_skip ?_
        refine heldF_nil ?_
        refine tailL_skip ?_
        refine tailL_step (fun K hK => ?_)
        go_simp
        refine (toIntS ao n cap zs w26 ((unhide HR).grown (unhide I26).grown) hn).mono ?_
        rintro e w27 ⟨rfl, o27, g27⟩
        have B27 : Hid (∀ k, Value.ownBlock _ = some k → w26.heap.size ≤ k ∧ k < w27.heap.size) := hide (fun k hk => o27.lt k hk)
        have Aa_027 := hide o27
        clear o27
        have Z27 := hide g27.size
        have I27 := hide ((unhide I26).new g27)
        have W_27 := hide (own_grown (unhide W_26) g27)
        have Y_27 := hide (own_grown (unhide Y_26) g27)
        have XB_27 := hide (grown_atT g27 (unhide XB_26) (by simp))
        clear I26 g27 W_26 Y_26 XB_26
        go_simp
        refine hK.out _ _ (.inr (unhide I27)) ?_
        clear hK K
        refine tailL_skip ?_
        refine tailL_step (fun K hK => ?_)
        go_simp
        refine (toScan1 xo m xc cs fr to hi lo w27 ((unhide HX).grown (unhide I27).grown) hm).mono ?_
        rintro e w28 ⟨vo28, vc28, rfl, o28, b28, g28⟩
        have B28 : Hid (∀ k, Value.ownBlock _ = some k → w27.heap.size ≤ k ∧ k < w28.heap.size) := hide (fun k hk => b28 k hk)
        have Ab_028 := hide o28
        clear o28
        clear b28
        have Z28 := hide g28.size
        have I28 := hide ((unhide I27).new g28)
        have W_28 := hide (own_grown (unhide W_27) g28)
        have Y_28 := hide (own_grown (unhide Y_27) g28)
        have Aa_28 := hide (own_grown (unhide Aa_027) g28)
        have XB_28 := hide (grown_atT g28 (unhide XB_27) (by simp))
        clear I27 g28 W_27 Y_27 Aa_027 XB_27
        go_simp
        refine hK.out _ _ (.inr (unhide I28)) ?_
        clear hK K
        refine tailL_skip ?_
        refine tailL_step (fun K hK => ?_)
        go_simp
        refine (toIntS bo n2 cap2 ls w28 ((unhide HR2).grown (unhide I28).grown) hn2).mono ?_
        rintro e w29 ⟨rfl, o29, g29⟩
        have B29 : Hid (∀ k, Value.ownBlock _ = some k → w28.heap.size ≤ k ∧ k < w29.heap.size) := hide (fun k hk => o29.lt k hk)
        have Ac_029 := hide o29
        clear o29
        have Z29 := hide g29.size
        have I29 := hide ((unhide I28).new g29)
        have W_29 := hide (own_grown (unhide W_28) g29)
        have Y_29 := hide (own_grown (unhide Y_28) g29)
        have Aa_29 := hide (own_grown (unhide Aa_28) g29)
        have Ab_29 := hide (own_grown (unhide Ab_028) g29)
        have XB_29 := hide (grown_atT g29 (unhide XB_28) (by simp))
        clear I28 g29 W_28 Y_28 Aa_28 Ab_028 XB_28
        go_simp
        refine hK.out _ _ (.inr (unhide I29)) ?_
        clear hK K
        refine tailL_step (fun K hK => ?_)
        go_simp
        have HC := unhide HI _ n n zs w29 (own_rd (unhide Aa_29)) hbig vo28 m vc28 ⟨cs, fr, to, hi, lo⟩ (own_rd (unhide Ab_29)) hm _ n2 n2 ls (own_rd (unhide Ac_029)) hbig2 L HL
        dsimp only at HC
        refine HC.mono ?_
        rintro e w30 ⟨so30, sc30, rfl, o30, g30⟩
        clear HC
        have B30 : Hid (∀ k, Value.ownBlock _ = some k → w29.heap.size ≤ k ∧ k < w30.heap.size) := hide (fun k hk => o30.lt k hk)
        have H_030 := hide o30
        clear o30
        clear Aa_29
        clear Ab_29
        clear Ac_029
        have Z30 := hide g30.size
        have I30 := hide ((unhide I29).new g30)
        have W_30 := hide (own_grown (unhide W_29) g30)
        have Y_30 := hide (own_grown (unhide Y_29) g30)
        have XB_30 := hide (grown_atT g30 (unhide XB_29) (by simp))
        clear I29 g30 W_29 Y_29 XB_29
        go_simp
        refine hK.out _ _ (.inr (unhide I30)) ?_
        clear hK K
        refine tailL_step (fun K hK => ?_)
        go_simp
        go_simp
        refine hK.out _ _ (.inl rfl) ?_
        clear hK K
        refine tailL_nil (NoPanic.normal ?_)
        go_wp2_with fail
        refine (eqIntS _ _ L.length _ _ L w30 (own_rd (unhide H_030)) (own_rd (unhide W_30)) hL).mono ?_
        rintro e w31 ⟨rfl, g31⟩
        have Z31 := hide g31.size
        have I31 := hide ((unhide I30).new g31)
        have W_31 := hide (own_grown (unhide W_30) g31)
        have Y_31 := hide (own_grown (unhide Y_30) g31)
        have H_31 := hide (own_grown (unhide H_030) g31)
        have XB_31 := hide (grown_atT g31 (unhide XB_30) (by simp))
        clear I30 g31 W_30 Y_30 H_030 XB_30
        clear H_31
        clear W_31
        go_wp2_with fail
        refine (heldIntS _ _ _ 1 w31 (own_rd (unhide Y_31)) hL (by omega) (by omega)).mono ?_
        rintro e w32 ⟨rfl, g32⟩
        have Z32 := hide g32.size
        have I32 := hide ((unhide I31).new g32)
        have Y_32 := hide (own_grown (unhide Y_31) g32)
        have XB_32 := hide (grown_atT g32 (unhide XB_31) (by simp))
        clear I31 g32 Y_31 XB_31
        go_wp2
        go_ret
        exact ⟨rfl, grown_below (unhide I32).grown⟩
      · have hr1 : decide (r < 0) = true := decide_eq_true (by have := unhide HSZ; rw [if_neg hm] at this; omega)
        go_enter Try.func7, Try.ntmps7
        go_wp2_with fail
        generalize (w.alloc (.cells #[.slice xo m xc, .int .i64 fr, .int .i64 to, .int .i64 hi, .int .i64 lo] 45)) = wx at *
        refine (unhide HS1 wx (unhide I0).grown).mono ?_
        rintro e w1 ⟨rfl, g1⟩
        have I1 := hide ((unhide I0).new g1)
        clear c0 g1
        go_wp2
        go_ret
        exact ⟨rfl, grown_below (unhide I1).grown⟩
    · have hdec2 : decide ((1048576 : Int) < (n2 : Int)) = true := by simp; omega
      go_enter Try.func7, Try.ntmps7
      go_wp2
      go_ret
      exact ⟨rfl, grown_below (unhide I0).grown⟩
  · have hdec : decide ((1048576 : Int) < (n : Int)) = true := by simp; omega
    go_enter Try.func7, Try.ntmps7
    go_wp2
    go_ret
    exact ⟨rfl, grown_below (unhide I0).grown⟩

end Go.Proofs.Ytfgglainjaplgaa

namespace Go.Proofs.Ytfgglainjaplgaa
open Go.RowKit Go.Shelf

theorem nearestLevel (n : Int) (w : World) :
    Calls Try.prog 70 #[.int .i64 n] w fun e w' => e = .returned (.int .i64 (min (max n (-16383)) 16383)) ∧ w = w' := by
  go_enter Try.func70, Try.ntmps70
  go_wp2
  all_goals
    go_ret
    refine ⟨ret_int ?_, rfl⟩
    first | omega | (split at * <;> omega)

set_option maxRecDepth 20000 in
set_option maxHeartbeats 400000 in
theorem fixLevels (ao : Option Addr) (n cap : Nat) (zs : List Int) (w : World) (hr : Rd .i64 w ao n zs) (b : Bool) (hb : Hid (levB (-16383) 16383 zs = b)) :
    Calls Try.prog 60 #[.slice ao n cap] w fun e w' => (∃ ys, e = .returned (.tuple #[.agg (sq ys), .bool b]) ∧ ys.length = 64 ∧ (n = 64 → ys = zs)) ∧ w.grownBy w' none := by
  by_cases h : n = 64
  · subst h
    obtain ⟨bb, off, rfl, _⟩ := hr.2 0 (by omega)
    have e : (zs == made (fun k => min (max (zs.getD k 0) (-16383)) 16383)) = b := by rw [clip_same (by omega) zs hr.1]; exact unhide hb
    have HZ := hide hr.1
    have HR := hide (hr.grown (World.grownBy_alloc w (.cells #[.int .i64 0, .int .i64 0, .int .i64 0, .int .i64 0, .int .i64 0, .int .i64 0, .int .i64 0, .int .i64 0, .int .i64 0, .int .i64 0, .int .i64 0, .int .i64 0, .int .i64 0, .int .i64 0, .int .i64 0, .int .i64 0, .int .i64 0, .int .i64 0, .int .i64 0, .int .i64 0, .int .i64 0, .int .i64 0, .int .i64 0, .int .i64 0, .int .i64 0, .int .i64 0, .int .i64 0, .int .i64 0, .int .i64 0, .int .i64 0, .int .i64 0, .int .i64 0, .int .i64 0, .int .i64 0, .int .i64 0, .int .i64 0, .int .i64 0, .int .i64 0, .int .i64 0, .int .i64 0, .int .i64 0, .int .i64 0, .int .i64 0, .int .i64 0, .int .i64 0, .int .i64 0, .int .i64 0, .int .i64 0, .int .i64 0, .int .i64 0, .int .i64 0, .int .i64 0, .int .i64 0, .int .i64 0, .int .i64 0, .int .i64 0, .int .i64 0, .int .i64 0, .int .i64 0, .int .i64 0, .int .i64 0, .int .i64 0, .int .i64 0, .int .i64 0] 73) none))
    clear hr
    go_enter Try.func60, Try.ntmps60
    go_wp2_with fail
    refine (fixSquare_yes bb off cap zs _ (unhide HR) (fun k => min (max (zs.getD k 0) (-16383)) 16383) 70 #[] (enters_of Try.func70 (by kernel_rfl) rfl) (fun k hk W hW => (nearestLevel (zs.getD k 0) W).mono ?_)).mono ?_
    · rintro e w' ⟨rfl, rfl⟩
      exact ⟨rfl, World.grownBy.refl _ _⟩
    · rintro e' w' ⟨rfl, g⟩
      rw [e]
      clear HR hb e
      have hB := (g.block w.heap.size (by simp) (by simp)).trans (heap_alloc_new w _)
      have HB := hide hB
      clear hB
      go_wp2_with (refine store_row rfl 73 _ _ rfl w.heap.size rfl (sq zs) rfl #[.int .i64 0, .int .i64 0, .int .i64 0, .int .i64 0, .int .i64 0, .int .i64 0, .int .i64 0, .int .i64 0, .int .i64 0, .int .i64 0, .int .i64 0, .int .i64 0, .int .i64 0, .int .i64 0, .int .i64 0, .int .i64 0, .int .i64 0, .int .i64 0, .int .i64 0, .int .i64 0, .int .i64 0, .int .i64 0, .int .i64 0, .int .i64 0, .int .i64 0, .int .i64 0, .int .i64 0, .int .i64 0, .int .i64 0, .int .i64 0, .int .i64 0, .int .i64 0, .int .i64 0, .int .i64 0, .int .i64 0, .int .i64 0, .int .i64 0, .int .i64 0, .int .i64 0, .int .i64 0, .int .i64 0, .int .i64 0, .int .i64 0, .int .i64 0, .int .i64 0, .int .i64 0, .int .i64 0, .int .i64 0, .int .i64 0, .int .i64 0, .int .i64 0, .int .i64 0, .int .i64 0, .int .i64 0, .int .i64 0, .int .i64 0, .int .i64 0, .int .i64 0, .int .i64 0, .int .i64 0, .int .i64 0, .int .i64 0, .int .i64 0, .int .i64 0] 73 (unhide HB) (by rw [sq_size, unhide HZ]; rfl) (by rw [sq_size, unhide HZ]; kernel_rfl) (sq_one _) ?_; intro w3 hB3 g3)
      refine bodyPost_ret (v := .tuple #[.agg (sq zs), .bool b]) ?_ rfl ⟨⟨_, rfl, (by first | exact unhide HZ | exact zs64_len), ?_⟩, ?_⟩
      · exact results_c2 (p := 2) (q := 3) (ty := 73) rfl _ _ _ w.heap.size rfl _ (run_loadVar_row w3 _ 73 73 _ (0, 0) _ hB3 Try.underlying73 rfl (by rw [sq_size, unhide HZ]; kernel_rfl))
      · intro hh; first | rfl | exact absurd hh h
      · exact grown_new (grown_new (World.grownBy_alloc _ _ _) g (fun g e => by simp at e)) g3 (fun g e => by simp at e; omega)
  · have hb' : b = false := by rw [← unhide hb]; simp [levB, hr.1, h]
    subst hb'
    clear hr hb
    go_enter Try.func60, Try.ntmps60
    go_wp2_with fail
    refine (fixSquare_no ao n cap _ _ h).mono ?_
    rintro e' w' ⟨rfl, g⟩
    have hB := (g.block w.heap.size (by simp) (by simp)).trans (heap_alloc_new w _)
    have HB := hide hB
    clear hB
    go_wp2_with (refine store_row rfl 73 _ _ rfl w.heap.size rfl (sq zs64) rfl #[.int .i64 0, .int .i64 0, .int .i64 0, .int .i64 0, .int .i64 0, .int .i64 0, .int .i64 0, .int .i64 0, .int .i64 0, .int .i64 0, .int .i64 0, .int .i64 0, .int .i64 0, .int .i64 0, .int .i64 0, .int .i64 0, .int .i64 0, .int .i64 0, .int .i64 0, .int .i64 0, .int .i64 0, .int .i64 0, .int .i64 0, .int .i64 0, .int .i64 0, .int .i64 0, .int .i64 0, .int .i64 0, .int .i64 0, .int .i64 0, .int .i64 0, .int .i64 0, .int .i64 0, .int .i64 0, .int .i64 0, .int .i64 0, .int .i64 0, .int .i64 0, .int .i64 0, .int .i64 0, .int .i64 0, .int .i64 0, .int .i64 0, .int .i64 0, .int .i64 0, .int .i64 0, .int .i64 0, .int .i64 0, .int .i64 0, .int .i64 0, .int .i64 0, .int .i64 0, .int .i64 0, .int .i64 0, .int .i64 0, .int .i64 0, .int .i64 0, .int .i64 0, .int .i64 0, .int .i64 0, .int .i64 0, .int .i64 0, .int .i64 0, .int .i64 0] 73 (unhide HB) (by rw [sq_size, zs64_len]; rfl) (by rw [sq_size, zs64_len]; kernel_rfl) (sq_one _) ?_; intro w3 hB3 g3)
    refine bodyPost_ret (v := .tuple #[.agg (sq zs64), .bool false]) ?_ rfl ⟨⟨_, rfl, (by first | exact unhide HZ | exact zs64_len), ?_⟩, ?_⟩
    · exact results_c2 (p := 2) (q := 3) (ty := 73) rfl _ _ _ w.heap.size rfl _ (run_loadVar_row w3 _ 73 73 _ (0, 0) _ hB3 Try.underlying73 rfl (by rw [sq_size, zs64_len]; kernel_rfl))
    · intro hh; first | rfl | exact absurd hh h
    · exact grown_new (grown_new (World.grownBy_alloc _ _ _) g (fun g e => by simp at e)) g3 (fun g e => by simp at e; omega)

end Go.Proofs.Ytfgglainjaplgaa

namespace Go.Proofs.Ytfgglainjaplgaa
open Go.RowKit

theorem kindOfPass (w : World) (v0 : Value) (a : Scn) (k : Int) (HK : Hid ((if a.hi = 0 then 0 else 1) = k)) :
    Calls Try.prog 62 #[scV v0 a] w fun e w' => e = .returned (.int .i64 k) ∧ w.grownBy w' none := by
  obtain ⟨cs, fr, to, hi, lo⟩ := a
  have hk := unhide HK
  unfold scV
  dsimp only at hk ⊢
  have HG0 : Hid (w.grownBy (w.alloc (.cells #[v0, .int .i64 fr, .int .i64 to, .int .i64 hi, .int .i64 lo] 26)) none) := World.grownBy_alloc _ _ _
  obtain ⟨c0, c1, c2, c3, c4⟩ := scanCells (heap_alloc_new w (.cells #[v0, .int .i64 fr, .int .i64 to, .int .i64 hi, .int .i64 lo] 26))
  clear HK
  by_cases h0 : hi = 0
  · have n0 : (hi == 0) = true := by simp [h0]
    obtain rfl : k = 0 := by rw [← hk, if_pos h0]
    clear h0 hk
    go_enter Try.func62, Try.ntmps62
    go_wp2
    go_ret
    exact ⟨rfl, unhide HG0⟩
  · have n0 : (hi == 0) = false := by simp [h0]
    obtain rfl : k = 1 := by rw [← hk, if_neg h0]
    clear h0 hk
    go_enter Try.func62, Try.ntmps62
    go_wp2
    go_ret
    exact ⟨rfl, unhide HG0⟩

theorem pow_all : ∀ lo : Nat, lo < 15 → (1 : Int) ≤ 2 ^ lo ∧ (2 : Int) ^ lo ≤ 16384 := by decide
theorem pow_in (lo : Nat) (h : lo ≤ 14) : (1 : Int) ≤ 2 ^ lo ∧ (2 : Int) ^ lo ≤ 16384 := pow_all lo (by omega)
theorem cut_tdiv (n : Int) (lo : Nat) : n.tdiv (2 ^ lo) = cutI n lo := by
  have hp := pow2_pos lo
  unfold cutI
  split
  · rename_i h
    have e : n = -(-n) := by omega
    rw [e, Int.neg_tdiv, Int.tdiv_eq_ediv_of_nonneg (by omega)]
    simp
  · rename_i h
    rw [Int.tdiv_eq_ediv_of_nonneg (by omega)]
theorem cut_in (n : Int) (lo : Nat) (hn : -16383 ≤ n ∧ n ≤ 16383) : -16383 ≤ cutI n lo ∧ cutI n lo ≤ 16383 := by
  have hp := pow2_pos lo
  have key : ∀ a : Int, 0 ≤ a → 0 ≤ a / 2 ^ lo ∧ a / 2 ^ lo ≤ a := fun a ha => ⟨Int.ediv_nonneg ha (Int.le_of_lt hp), Int.ediv_le_self _ ha⟩
  unfold cutI
  split
  · have := key (-n) (by omega); omega
  · have := key n (by omega); omega

theorem firstTell (n : Int) (lo : Nat) (hn : -16383 ≤ n ∧ n ≤ 16383) (hlo : lo ≤ 13) (w : World) :
    Calls Try.prog 72 #[.agg #[.int .i64 lo], .int .i64 n] w fun e w' => e = .returned (.int .i64 (cutI n lo)) ∧ w.grownBy w' none := by
  have hp := pow_in lo (by omega)
  have hc := cut_in n lo hn
  have e1 := i64_in (2 ^ lo) (by omega)
  have hne : ¬ ((2 : Int) ^ lo = 0) := by omega
  have et := cut_tdiv n lo
  have e2 := i64_in (cutI n lo) (by omega)
  have l1 : ¬ ((lo : Int) < 0) := by omega
  have l2 : (lo : Int).toNat = lo := rfl
  clear hp hc
  go_enter Try.func72, Try.ntmps72
  go_wp2
  go_ret
  exact ⟨rfl, World.grownBy_alloc _ _ _⟩

theorem first_most (told : Int) (lo : Nat) : decide (-(16383 / 2 ^ lo) ≤ told ∧ told ≤ 16383 / 2 ^ lo) = (inLev told && inLev (told * 2 ^ lo)) := by
  have hp := pow2_pos lo
  unfold inLev
  rw [Bool.eq_iff_iff, Bool.and_eq_true, decide_eq_true_eq, decide_eq_true_eq, decide_eq_true_eq]
  have h1 : ∀ x : Int, x ≤ 16383 / 2 ^ lo ↔ x * 2 ^ lo ≤ 16383 := fun x => Int.le_ediv_iff_mul_le hp
  have h2 := h1 told
  have h3 := h1 (-told)
  have h4 : -told * 2 ^ lo = -(told * 2 ^ lo) := Int.neg_mul _ _
  have h5 : (16383 : Int) / 2 ^ lo ≤ 16383 := Int.ediv_le_self _ (by omega)
  constructor
  · rintro ⟨g1, g2⟩
    have := h2.1 g2
    have := h3.1 (by omega)
    omega
  · rintro ⟨_, g3, g4⟩
    have := h2.2 g4
    have := h3.2 (by omega)
    omega

theorem firstPut (x told : Int) (lo : Nat) (hlo : lo ≤ 13) (b : Bool) (HB : Hid ((inLev told && inLev (told * 2 ^ lo)) = b)) (w : World) :
    Calls Try.prog 75 #[.agg #[.int .i64 lo], .int .i64 x, .int .i64 told] w fun e w' => ∃ y : Int, (e = .returned (.tuple #[.int .i64 y, .bool b]) ∧ (b = true → y = told * 2 ^ lo)) ∧ w.grownBy w' none := by
  have hp := pow_in lo (by omega)
  have e1 := i64_in (2 ^ lo) (by omega)
  have hne : ¬ ((2 : Int) ^ lo = 0) := by omega
  have hd0 : 0 ≤ (16383 : Int) / 2 ^ lo := Int.ediv_nonneg (by omega) (by omega)
  have hd1 : (16383 : Int) / 2 ^ lo ≤ 16383 := Int.ediv_le_self _ (by omega)
  have hm := first_most told lo
  rw [unhide HB] at hm
  have et : (16383 : Int).tdiv (2 ^ lo) = 16383 / 2 ^ lo := Int.tdiv_eq_ediv_of_nonneg (by omega)
  have l1 : ¬ ((lo : Int) < 0) := by omega
  have l2 : (lo : Int).toNat = lo := rfl
  have hb := unhide HB
  obtain ⟨q, HQ⟩ : ∃ q, Hid ((16383 : Int) / 2 ^ lo = q) := ⟨_, rfl⟩
  rw [unhide HQ] at hd0 hd1 hm et
  have e2 := i64_in q (by omega)
  have e3 := i64_in (-q) (by omega)
  have HM := hide hm
  have HG0 : Hid (w.grownBy (w.alloc (.cells #[.int .i64 lo] 99)) none) := World.grownBy_alloc _ _ _
  have e4 : b = true → IntKind.i64.wrap (told * 2 ^ lo) = told * 2 ^ lo := fun h => by
    rw [h] at hb
    unfold inLev at hb
    simp only [Bool.and_eq_true, decide_eq_true_eq] at hb
    exact i64_in _ (by omega)
  clear hp hd0 hd1 hm hb HB
  go_enter Try.func75, Try.ntmps75
  go_wp2_with fail
  refine (inRange told (-q) q b HM _).mono ?_
  rintro e w2 ⟨rfl, rfl⟩
  cases b with
  | false =>
    clear e4
    go_wp2
    exact bodyPost_ret (v := .tuple #[.int .i64 0, .bool false]) (by simp [results, Try.results75, go_sem]) rfl (by first | exact ⟨0, ⟨rfl, fun h => by cases h⟩, unhide HG0⟩ | exact unhide HG0 | exact ⟨rfl, unhide HG0⟩)
  | true =>
    have e5 := e4 rfl
    clear e4
    go_wp2
    exact bodyPost_ret (v := .tuple #[.int .i64 (told * 2 ^ lo), .bool true]) (by simp [results, Try.results75, go_sem]) rfl (by first | exact ⟨_, ⟨rfl, fun _ => rfl⟩, unhide HG0⟩ | exact unhide HG0 | exact ⟨rfl, unhide HG0⟩)

theorem levelOk (n : Int) (w : World) (b : Bool) (HB : Hid (inLev n = b)) :
    Calls Try.prog 79 #[.int .i64 n] w fun e w' => e = .returned (.bool b) ∧ w = w' := by
  have hb : (n == min (max n (-16383)) 16383) = b := by
    rw [← unhide HB]
    unfold inLev
    rw [Bool.eq_iff_iff, beq_iff_eq, decide_eq_true_eq]
    omega
  go_enter Try.func79, Try.ntmps79
  go_wp2_with fail
  refine (nearestLevel n w).mono ?_
  rintro e w2 ⟨rfl, rfl⟩
  go_wp2
  go_ret
  exact ⟨rfl, rfl⟩

theorem cut_bit (x : Int) (lo : Nat) (h0 : 0 ≤ x) (h1 : x ≤ 16383) : bits BinOp.and IntKind.i64 (x / 2 ^ lo) 1 = x / 2 ^ lo % 2 ∧ 0 ≤ x / 2 ^ lo ∧ x / 2 ^ lo ≤ 16383 := by
  have hq0 : 0 ≤ x / 2 ^ lo := Int.ediv_nonneg h0 (Int.le_of_lt (pow2_pos lo))
  have hq1 : x / 2 ^ lo ≤ x := Int.ediv_le_self _ h0
  exact ⟨and1_i64 _ hq0 (by omega), hq0, by omega⟩

set_option maxHeartbeats 800000 in
theorem refTell (n : Int) (hi lo : Nat) (hn : -16383 ≤ n ∧ n ≤ 16383) (hhi : hi ≤ 14) (hlo : lo ≤ 13) (w : World) :
    Calls Try.prog 73 #[.agg #[.int .i64 hi, .int .i64 lo], .int .i64 n] w fun e w' => e = .returned (.int .i64 (bitI n hi lo)) ∧ w.grownBy w' none := by
  have hp := pow_in hi hhi
  have e1 := i64_in (2 ^ hi) (by omega)
  have hne : ¬ ((2 : Int) ^ hi = 0) := by omega
  have et := cut_tdiv n hi
  have hc := cut_in n hi hn
  have e2 := i64_in (cutI n hi) (by omega)
  have e3 := i64_in (-n) (by omega)
  have l1 : ¬ ((lo : Int) < 0) := by omega
  have l2 : (lo : Int).toNat = lo := rfl
  have l3 : ¬ ((hi : Int) < 0) := by omega
  have l4 : (hi : Int).toNat = hi := rfl
  clear hp hc
  by_cases h : n < 0
  · have hd : decide (n < 0) = true := decide_eq_true h
    obtain ⟨e6, q0, q1⟩ := cut_bit (-n) lo (by omega) (by omega)
    have ea : absI n = -n := by unfold absI; rw [if_pos h]
    have em : max n (-n) = -n := by omega
    have e7 := i64_in (-(-n / 2 ^ lo % 2)) (by omega)
    by_cases h0 : cutI n hi = 0
    · have n0 : (cutI n hi == 0) = true := by simp [h0]
      have hb : bitI n hi lo = -(-n / 2 ^ lo % 2) := by unfold bitI; rw [if_pos ⟨h, h0⟩, ea]
      rw [hb]
      clear hb ea h0 q0 q1
      go_enter Try.func73, Try.ntmps73
      go_wp2
      go_ret
      exact ⟨rfl, World.grownBy_alloc _ _ _⟩
    · have n0 : (cutI n hi == 0) = false := by simp [h0]
      have hb : bitI n hi lo = -n / 2 ^ lo % 2 := by unfold bitI; rw [if_neg (fun hh => h0 hh.2), ea]
      rw [hb]
      clear hb ea h0 q0 q1
      go_enter Try.func73, Try.ntmps73
      go_wp2
      go_ret
      exact ⟨rfl, World.grownBy_alloc _ _ _⟩
  · have hd : decide (n < 0) = false := decide_eq_false h
    obtain ⟨e6, q0, q1⟩ := cut_bit n lo (by omega) (by omega)
    have ea : absI n = n := by unfold absI; rw [if_neg h]
    have em : max n (-n) = n := by omega
    have hb : bitI n hi lo = n / 2 ^ lo % 2 := by unfold bitI; rw [if_neg (fun hh => h hh.1), ea]
    rw [hb]
    clear hb ea q0 q1
    go_enter Try.func73, Try.ntmps73
    go_wp2
    go_ret
    exact ⟨rfl, World.grownBy_alloc _ _ _⟩

def refB (lo : Nat) (n told : Int) : Bool := decide (-1 ≤ told ∧ told ≤ 1) && !(decide (told < 0) && decide (n ≠ 0)) && inLev (finer lo told n)

set_option maxHeartbeats 800000 in
theorem refPut (n told : Int) (hi lo : Nat) (hn : -16383 ≤ n ∧ n ≤ 16383) (hlo : lo ≤ 13) (b : Bool) (HB : Hid (refB lo n told = b)) (w : World) :
    Calls Try.prog 76 #[.agg #[.int .i64 hi, .int .i64 lo], .int .i64 n, .int .i64 told] w fun e w' => ∃ y : Int, (e = .returned (.tuple #[.int .i64 y, .bool b]) ∧ (b = true → y = finer lo told n)) ∧ w.grownBy w' none := by
  have hp := pow_in lo (by omega)
  have e1 := i64_in (2 ^ lo) (by omega)
  have l1 : ¬ ((lo : Int) < 0) := by omega
  have l2 : (lo : Int).toNat = lo := rfl
  have hb := unhide HB
  unfold refB at hb
  obtain ⟨b1, HB1⟩ : ∃ b, Hid (decide (-1 ≤ told ∧ told ≤ 1) = b) := ⟨_, rfl⟩
  rw [unhide HB1] at hb
  have HG0 : Hid (w.grownBy (w.alloc (.cells #[.int .i64 hi, .int .i64 lo] 101)) none) := World.grownBy_alloc _ _ _
  clear HB
  go_enter Try.func76, Try.ntmps76
  go_wp2_with fail
  refine (inRange told (-1) 1 b1 HB1 _).mono ?_
  rintro e w2 ⟨rfl, rfl⟩
  cases b1 with
  | false =>
    obtain rfl : b = false := by rw [← hb]; rfl
    clear hb
    go_wp2
    exact bodyPost_ret (v := .tuple #[.int .i64 0, .bool false]) (by simp [results, Try.results76, go_sem]) rfl ⟨0, ⟨rfl, fun h => by cases h⟩, unhide HG0⟩
  | true =>
    have ht := of_decide_eq_true (unhide HB1)
    clear HB1
    by_cases hneg : told < 0 ∧ n ≠ 0
    · obtain rfl : b = false := by rw [← hb, decide_eq_true hneg.1, decide_eq_true hneg.2]; rfl
      have d1 := decide_eq_true hneg.1
      have d2 : (n != 0) = true := by simp [hneg.2]
      clear hb
      go_wp2
      exact bodyPost_ret (v := .tuple #[.int .i64 0, .bool false]) (by simp [results, Try.results76, go_sem]) rfl ⟨0, ⟨rfl, fun h => by cases h⟩, unhide HG0⟩
    · have hno : (decide (told < 0) && decide (n ≠ 0)) = false := by
        rw [Bool.eq_false_iff]
        intro h
        rw [Bool.and_eq_true, decide_eq_true_eq, decide_eq_true_eq] at h
        exact hneg h
      have hB2 : inLev (finer lo told n) = b := by rw [← hb, hno]; simp
      have hk : (told < 0 ∧ n = 0) ∨ ¬ told < 0 := by by_cases h : told < 0 <;> simp_all
      have hmul : -16384 ≤ told * 2 ^ lo ∧ told * 2 ^ lo ≤ 16384 := by
        have : told = -1 ∨ told = 0 ∨ told = 1 := by omega
        rcases this with rfl | rfl | rfl <;> omega
      have e2 := i64_in (told * 2 ^ lo) (by omega)
      have e3 := i64_in (-(told * 2 ^ lo)) (by omega)
      clear hb hno hneg
      have hw : Hid (∀ y, y = finer lo told n → (∃ y', (Ending.returned (.tuple #[.int .i64 y, .bool b]) = .returned (.tuple #[.int .i64 y', .bool b]) ∧ (b = true → y' = finer lo told n)))) := fun y hy => ⟨y, rfl, fun _ => hy⟩
      by_cases hn0 : n < 0
      · have d3 := decide_eq_true hn0
        have ef : finer lo told n = n + -(told * 2 ^ lo) := by unfold finer; rw [if_pos hn0, Int.neg_mul]
        have ht0 : ¬ told < 0 := by omega
        have d1 := decide_eq_false ht0
        have e4 := i64_in (n + -(told * 2 ^ lo)) (by omega)
        have HLV := hide (fun W => levelOk (n + -(told * 2 ^ lo)) W b (by rw [← ef]; exact hB2))
        have HEF := hide ef
        clear hk ef hB2 hmul
        go_wp2_with fail
        refine (unhide HLV _).mono ?_
        rintro e w3 ⟨rfl, rfl⟩
        go_wp2
        exact bodyPost_ret (v := .tuple #[.int .i64 (n + -(told * 2 ^ lo)), .bool b]) (by simp [results, Try.results76, go_sem]) rfl ⟨_, ⟨rfl, fun _ => (unhide HEF).symm⟩, unhide HG0⟩
      · have d3 := decide_eq_false hn0
        have ef : finer lo told n = n + told * 2 ^ lo := by unfold finer; rw [if_neg hn0]
        have e4 := i64_in (n + told * 2 ^ lo) (by omega)
        have HLV := hide (fun W => levelOk (n + told * 2 ^ lo) W b (by rw [← ef]; exact hB2))
        have HEF := hide ef
        clear ef hB2 hmul
        rcases hk with ⟨h1, h2⟩ | h1
        · have d1 := decide_eq_true h1
          have d2 : (n != 0) = false := by simp [h2]
          clear h2
          go_wp2_with fail
          refine (unhide HLV _).mono ?_
          rintro e w3 ⟨rfl, rfl⟩
          go_wp2
          exact bodyPost_ret (v := .tuple #[.int .i64 (n + told * 2 ^ lo), .bool b]) (by simp [results, Try.results76, go_sem]) rfl ⟨_, ⟨rfl, fun _ => (unhide HEF).symm⟩, unhide HG0⟩
        · have d1 := decide_eq_false h1
          go_wp2_with fail
          refine (unhide HLV _).mono ?_
          rintro e w3 ⟨rfl, rfl⟩
          go_wp2
          exact bodyPost_ret (v := .tuple #[.int .i64 (n + told * 2 ^ lo), .bool b]) (by simp [results, Try.results76, go_sem]) rfl ⟨_, ⟨rfl, fun _ => (unhide HEF).symm⟩, unhide HG0⟩

end Go.Proofs.Ytfgglainjaplgaa

namespace Go.Proofs.Ytfgglainjaplgaa
open Go.RowKit

/-- A scan in its box, and a table that is not filled yet. -/
structure Tw (w W : World) (bs : Array Value) (T : TypeId) : Prop where
  sb : W.heap[w.heap.size]? = some (.cells bs 26 (0, 0))
  rb : W.heap[w.heap.size + 1]? = some (.cells #[.nilFunc, .nilFunc] T (0, 0))
  grown : w.grownBy W none
theorem Tw.size {w W : World} {bs : Array Value} {T : TypeId} (h : Tw w W bs T) : w.heap.size + 2 ≤ W.heap.size := (Array.getElem?_eq_some_iff.1 h.rb).1
theorem Tw.new {w W W' : World} {bs : Array Value} {T : TypeId} (h : Tw w W bs T) (g : W.grownBy W' none) : Tw w W' bs T := ⟨grown_atT g h.sb (by simp), grown_atT g h.rb (by simp), grown_trans h.grown g⟩
theorem Tw.wr {w W W' : World} {bs : Array Value} {T : TypeId} {k : Nat} (h : Tw w W bs T) (g : W.grownBy W' (some k)) (hk : w.heap.size + 2 ≤ k) : Tw w W' bs T :=
  ⟨grown_atT g h.sb (by simp; omega), grown_atT g h.rb (by simp; omega), grown_new h.grown g (fun x e => by simp at e; omega)⟩
theorem Tw.start (w : World) (bs : Array Value) (T : TypeId) : Tw w ((w.alloc (.cells bs 26)).alloc (.cells #[.nilFunc, .nilFunc] T)) bs T := by
  refine ⟨?_, ?_, grown_alloc (World.grownBy_alloc _ _ _) _⟩
  · rw [Below.heap_alloc _ _ _ (by simp)]
    exact heap_alloc_new w _
  · have := heap_alloc_new (w.alloc (.cells bs 26)) (.cells #[.nilFunc, .nilFunc] T)
    simpa using this

set_option maxRecDepth 20000 in
set_option maxHeartbeats 1600000 in
theorem tellTable (w : World) (v0 : Value) (cs : List Int) (fr to hi lo : Int) :
    Calls Try.prog 63 #[scV v0 ⟨cs, fr, to, hi, lo⟩] w fun e w' => e = .returned (.agg #[.func (.func 72) #[.agg #[.int .i64 lo]] #[], .func (.func 73) #[.agg #[.int .i64 hi, .int .i64 lo]] #[]]) ∧ w.grownBy w' none := by
  have hmf : ∀ (fn : Fn) (first cap : Array Value) (w : World), (Instr.makeFunc fn first cap).run Try.prog w = .ok (.func fn first cap) w := fun _ _ _ _ => rfl
  unfold scV
  dsimp only
  have H0 := hide (Tw.start w #[v0, .int .i64 fr, .int .i64 to, .int .i64 hi, .int .i64 lo] 85)
  go_enter Try.func63, Try.ntmps63
  go_wp2
  generalize ((w.alloc (.cells #[v0, .int .i64 fr, .int .i64 to, .int .i64 hi, .int .i64 lo] 26)).alloc (.cells #[.nilFunc, .nilFunc] 85)) = W0 at *
  refine wp_region_noPanic ?_
  have H1 := hide ((unhide H0).new (grown_drew (World.grownBy.refl W0 none)))
  clear H0
  refine wp_region_raw (fun W => Tw w W #[v0, .int .i64 fr, .int .i64 to, .int .i64 hi, .int .i64 lo] 85) [true, true, true, true, true, true, true, true, false, false, false, false] (by kernel_rfl) (fun _ _ _ _ _ h => h) rfl (by kernel_rfl) (unhide H1) ?_
  generalize W0.drew = W1 at *
  refine heldF_take (v := ?_) (Or.inl ⟨by rfl, ?_⟩) ?_
  rotate_left 1
  · intro w' hSw
    try dsimp only at hSw
    obtain ⟨s0, s1, s2, s3, s4⟩ := scanCells hSw.sb
    clear hSw
    go_simp
    try with_reducible rfl
  simp only [Act.put, List.setIfInBounds_toArray, List.set_cons_zero, List.set_cons_succ]
  refine heldF_take (v := ?_) (Or.inl ⟨by rfl, ?_⟩) ?_
  rotate_left 1
  · intro w' hSw
    try dsimp only at hSw
    obtain ⟨s0, s1, s2, s3, s4⟩ := scanCells hSw.sb
    clear hSw
    go_simp
    try with_reducible rfl
  simp only [Act.put, List.setIfInBounds_toArray, List.set_cons_zero, List.set_cons_succ]
  refine heldF_take (v := ?_) (Or.inl ⟨by rfl, ?_⟩) ?_
  rotate_left 1
  · intro w' hSw
    try dsimp only at hSw
    obtain ⟨s0, s1, s2, s3, s4⟩ := scanCells hSw.sb
    clear hSw
    go_simp
    try with_reducible rfl
  simp only [Act.put, List.setIfInBounds_toArray, List.set_cons_zero, List.set_cons_succ]
  refine heldF_take (v := ?_) (Or.inl ⟨by rfl, ?_⟩) ?_
  rotate_left 1
  · intro w' hSw
    try dsimp only at hSw
    obtain ⟨s0, s1, s2, s3, s4⟩ := scanCells hSw.sb
    clear hSw
    go_simp
    try with_reducible rfl
  simp only [Act.put, List.setIfInBounds_toArray, List.set_cons_zero, List.set_cons_succ]
  refine heldF_take (v := ?_) (Or.inl ⟨by rfl, ?_⟩) ?_
  rotate_left 1
  · intro w' hSw
    try dsimp only at hSw
    obtain ⟨s0, s1, s2, s3, s4⟩ := scanCells hSw.sb
    clear hSw
    go_simp
    try with_reducible rfl
  simp only [Act.put, List.setIfInBounds_toArray, List.set_cons_zero, List.set_cons_succ]
  refine heldF_take (v := ?_) (Or.inl ⟨by rfl, ?_⟩) ?_
  rotate_left 1
  · intro w' hSw
    try dsimp only at hSw
    obtain ⟨s0, s1, s2, s3, s4⟩ := scanCells hSw.sb
    clear hSw
    go_simp
    try with_reducible rfl
  simp only [Act.put, List.setIfInBounds_toArray, List.set_cons_zero, List.set_cons_succ]
  refine heldF_take (v := ?_) (Or.inl ⟨by rfl, ?_⟩) ?_
  rotate_left 1
  · intro w' hSw
    try dsimp only at hSw
    obtain ⟨s0, s1, s2, s3, s4⟩ := scanCells hSw.sb
    clear hSw
    go_simp
    try with_reducible rfl
  simp only [Act.put, List.setIfInBounds_toArray, List.set_cons_zero, List.set_cons_succ]
  refine heldF_take (v := ?_) (Or.inl ⟨by rfl, ?_⟩) ?_
  rotate_left 1
  · intro w' hSw
    try dsimp only at hSw
    obtain ⟨s0, s1, s2, s3, s4⟩ := scanCells hSw.sb
    clear hSw
    go_simp
    try with_reducible rfl
  simp only [Act.put, List.setIfInBounds_toArray, List.set_cons_zero, List.set_cons_succ]
  refine heldF_skip (heldF_skip (heldF_skip (heldF_skip (heldF_nil ?_))))
  have hs1 := (unhide H1).size
  refine anyH_step2 (i := 8) (j := 9) rfl rfl (by kernel_rfl) (fun K hK => ?_) (fun K hK => ?_)
  · go_simp
    have H2 := hide ((unhide H1).new (World.grownBy_alloc W1 (.cells #[.int .i64 0] 99) none))
    have N2 := hide (heap_alloc_new W1 (.cells #[.int .i64 0] 99))
    have s2 : W1.heap.size + 1 ≤ (W1.alloc (.cells #[.int .i64 0] 99)).heap.size := by simp
    refine hK.out _ _ (unhide H2) ?_
    clear hK K H1
    try simp only [Act.put, List.setIfInBounds_toArray, List.set_cons_zero, List.set_cons_succ]
    generalize (W1.alloc (.cells #[.int .i64 0] 99)) = W2 at *
    refine anyH_step1 (i := 9) rfl (by kernel_rfl) (fun K hK => ?_)
    go_simp
    have H3 := hide ((unhide H2).new (World.grownBy_alloc W2 (.cells #[.int .i64 0, .int .i64 0] 101) none))
    have N3 := hide (heap_alloc_new W2 (.cells #[.int .i64 0, .int .i64 0] 101))
    have M3 := hide (grown_atT (World.grownBy_alloc W2 (.cells #[.int .i64 0, .int .i64 0] 101) none) (unhide N2) (by simp))
    have s3 : W2.heap.size + 1 ≤ (W2.alloc (.cells #[.int .i64 0, .int .i64 0] 101)).heap.size := by simp
    refine hK.out _ _ (unhide H3) ?_
    clear hK K H2 N2
    try simp only [Act.put, List.setIfInBounds_toArray, List.set_cons_zero, List.set_cons_succ]
    generalize (W2.alloc (.cells #[.int .i64 0, .int .i64 0] 101)) = W3 at *
    refine anyH_step1 (i := 10) rfl (by kernel_rfl) (fun K hK => ?_)
    refine step_store_row (by rfl) 99 _ _ rfl (W1.heap.size) rfl #[.int .i64 lo] rfl #[.int .i64 0] 99 (unhide M3) rfl (by kernel_rfl) (by simp [Value.oneCell']) ?_
    intro W4 N4 g4
    have H4 := hide ((unhide H3).wr g4 (by omega))
    have M4 := hide (grown_atT g4 (unhide N3) (by simp; omega))
    have P4 := hide N4
    refine hK.out _ _ (unhide H4) ?_
    clear hK K H3 M3 N3 N4 g4
    try simp only [Act.put]
    refine anyH_step1 (i := 11) rfl (by kernel_rfl) (fun K hK => ?_)
    refine step_store_row (by rfl) 101 _ _ rfl (W2.heap.size) rfl #[.int .i64 hi, .int .i64 lo] rfl #[.int .i64 0, .int .i64 0] 101 (unhide M4) rfl (by kernel_rfl) (by simp [Value.oneCell']) ?_
    intro W5 N5 g5
    have H5 := hide ((unhide H4).wr g5 (by omega))
    have P5 := hide (grown_atT g5 (unhide P4) (by simp; omega))
    have M5 := hide N5
    refine hK.out _ _ (unhide H5) ?_
    clear hK K H4 M4 P4 N5 g5
    try simp only [Act.put]
    refine wpAnyH_done (by kernel_rfl) (NoPanic.normal ?_) _
    go_wp2_with (first | (refine load_row rfl 99 _ rfl (W1.heap.size) rfl #[.int .i64 lo] 99 (unhide P5) _ Try.underlying99 rfl (by kernel_rfl) ?_) | (refine load_row rfl 101 _ rfl (W2.heap.size) rfl #[.int .i64 hi, .int .i64 lo] 101 (unhide M5) _ Try.underlying101 rfl (by kernel_rfl) ?_) | (refine store_row rfl 85 _ _ rfl (w.heap.size + 1) rfl #[.func (.func 72) #[.agg #[.int .i64 lo]] #[], .func (.func 73) #[.agg #[.int .i64 hi, .int .i64 lo]] #[]] rfl #[.nilFunc, .nilFunc] 85 (unhide H5).rb rfl (by kernel_rfl) (by simp [Value.oneCell']) ?_; intro W6 hB6 g6))
    refine bodyPost_ret (v := .agg #[.func (.func 72) #[.agg #[.int .i64 lo]] #[], .func (.func 73) #[.agg #[.int .i64 hi, .int .i64 lo]] #[]]) ?_ rfl ⟨rfl, ?_⟩
    · rw [results_c1 rfl]
      exact run_loadVar_row W6 _ 85 85 _ (0, 0) _ hB6 Try.underlying85 rfl (by kernel_rfl)
    · exact grown_new (unhide H5).grown g6 (fun g e => by simp at e; omega)
  · go_simp
    have H2 := hide ((unhide H1).new (World.grownBy_alloc W1 (.cells #[.int .i64 0, .int .i64 0] 101) none))
    have N2 := hide (heap_alloc_new W1 (.cells #[.int .i64 0, .int .i64 0] 101))
    have s2 : W1.heap.size + 1 ≤ (W1.alloc (.cells #[.int .i64 0, .int .i64 0] 101)).heap.size := by simp
    refine hK.out _ _ (unhide H2) ?_
    clear hK K H1
    try simp only [Act.put, List.setIfInBounds_toArray, List.set_cons_zero, List.set_cons_succ]
    generalize (W1.alloc (.cells #[.int .i64 0, .int .i64 0] 101)) = W2 at *
    refine anyH_step1 (i := 8) rfl (by kernel_rfl) (fun K hK => ?_)
    go_simp
    have H3 := hide ((unhide H2).new (World.grownBy_alloc W2 (.cells #[.int .i64 0] 99) none))
    have N3 := hide (heap_alloc_new W2 (.cells #[.int .i64 0] 99))
    have M3 := hide (grown_atT (World.grownBy_alloc W2 (.cells #[.int .i64 0] 99) none) (unhide N2) (by simp))
    have s3 : W2.heap.size + 1 ≤ (W2.alloc (.cells #[.int .i64 0] 99)).heap.size := by simp
    refine hK.out _ _ (unhide H3) ?_
    clear hK K H2 N2
    try simp only [Act.put, List.setIfInBounds_toArray, List.set_cons_zero, List.set_cons_succ]
    generalize (W2.alloc (.cells #[.int .i64 0] 99)) = W3 at *
    refine anyH_step1 (i := 10) rfl (by kernel_rfl) (fun K hK => ?_)
    refine step_store_row (by rfl) 99 _ _ rfl (W2.heap.size) rfl #[.int .i64 lo] rfl #[.int .i64 0] 99 (unhide N3) rfl (by kernel_rfl) (by simp [Value.oneCell']) ?_
    intro W4 N4 g4
    have H4 := hide ((unhide H3).wr g4 (by omega))
    have M4 := hide (grown_atT g4 (unhide M3) (by simp; omega))
    have P4 := hide N4
    refine hK.out _ _ (unhide H4) ?_
    clear hK K H3 M3 N3 N4 g4
    try simp only [Act.put]
    refine anyH_step1 (i := 11) rfl (by kernel_rfl) (fun K hK => ?_)
    refine step_store_row (by rfl) 101 _ _ rfl (W1.heap.size) rfl #[.int .i64 hi, .int .i64 lo] rfl #[.int .i64 0, .int .i64 0] 101 (unhide M4) rfl (by kernel_rfl) (by simp [Value.oneCell']) ?_
    intro W5 N5 g5
    have H5 := hide ((unhide H4).wr g5 (by omega))
    have P5 := hide (grown_atT g5 (unhide P4) (by simp; omega))
    have M5 := hide N5
    refine hK.out _ _ (unhide H5) ?_
    clear hK K H4 M4 P4 N5 g5
    try simp only [Act.put]
    refine wpAnyH_done (by kernel_rfl) (NoPanic.normal ?_) _
    go_wp2_with (first | (refine load_row rfl 99 _ rfl (W2.heap.size) rfl #[.int .i64 lo] 99 (unhide P5) _ Try.underlying99 rfl (by kernel_rfl) ?_) | (refine load_row rfl 101 _ rfl (W1.heap.size) rfl #[.int .i64 hi, .int .i64 lo] 101 (unhide M5) _ Try.underlying101 rfl (by kernel_rfl) ?_) | (refine store_row rfl 85 _ _ rfl (w.heap.size + 1) rfl #[.func (.func 72) #[.agg #[.int .i64 lo]] #[], .func (.func 73) #[.agg #[.int .i64 hi, .int .i64 lo]] #[]] rfl #[.nilFunc, .nilFunc] 85 (unhide H5).rb rfl (by kernel_rfl) (by simp [Value.oneCell']) ?_; intro W6 hB6 g6))
    refine bodyPost_ret (v := .agg #[.func (.func 72) #[.agg #[.int .i64 lo]] #[], .func (.func 73) #[.agg #[.int .i64 hi, .int .i64 lo]] #[]]) ?_ rfl ⟨rfl, ?_⟩
    · rw [results_c1 rfl]
      exact run_loadVar_row W6 _ 85 85 _ (0, 0) _ hB6 Try.underlying85 rfl (by kernel_rfl)
    · exact grown_new (unhide H5).grown g6 (fun g e => by simp at e; omega)

set_option maxRecDepth 20000 in
set_option maxHeartbeats 1600000 in
theorem putTable (w : World) (v0 : Value) (cs : List Int) (fr to hi lo : Int) :
    Calls Try.prog 65 #[scV v0 ⟨cs, fr, to, hi, lo⟩] w fun e w' => e = .returned (.agg #[.func (.func 75) #[.agg #[.int .i64 lo]] #[], .func (.func 76) #[.agg #[.int .i64 hi, .int .i64 lo]] #[]]) ∧ w.grownBy w' none := by
  have hmf : ∀ (fn : Fn) (first cap : Array Value) (w : World), (Instr.makeFunc fn first cap).run Try.prog w = .ok (.func fn first cap) w := fun _ _ _ _ => rfl
  unfold scV
  dsimp only
  have H0 := hide (Tw.start w #[v0, .int .i64 fr, .int .i64 to, .int .i64 hi, .int .i64 lo] 90)
  go_enter Try.func65, Try.ntmps65
  go_wp2
  generalize ((w.alloc (.cells #[v0, .int .i64 fr, .int .i64 to, .int .i64 hi, .int .i64 lo] 26)).alloc (.cells #[.nilFunc, .nilFunc] 90)) = W0 at *
  refine wp_region_noPanic ?_
  have H1 := hide ((unhide H0).new (grown_drew (World.grownBy.refl W0 none)))
  clear H0
  refine wp_region_raw (fun W => Tw w W #[v0, .int .i64 fr, .int .i64 to, .int .i64 hi, .int .i64 lo] 90) [true, true, true, true, true, true, true, true, false, false, false, false] (by kernel_rfl) (fun _ _ _ _ _ h => h) rfl (by kernel_rfl) (unhide H1) ?_
  generalize W0.drew = W1 at *
  refine heldF_take (v := ?_) (Or.inl ⟨by rfl, ?_⟩) ?_
  rotate_left 1
  · intro w' hSw
    try dsimp only at hSw
    obtain ⟨s0, s1, s2, s3, s4⟩ := scanCells hSw.sb
    clear hSw
    go_simp
    try with_reducible rfl
  simp only [Act.put, List.setIfInBounds_toArray, List.set_cons_zero, List.set_cons_succ]
  refine heldF_take (v := ?_) (Or.inl ⟨by rfl, ?_⟩) ?_
  rotate_left 1
  · intro w' hSw
    try dsimp only at hSw
    obtain ⟨s0, s1, s2, s3, s4⟩ := scanCells hSw.sb
    clear hSw
    go_simp
    try with_reducible rfl
  simp only [Act.put, List.setIfInBounds_toArray, List.set_cons_zero, List.set_cons_succ]
  refine heldF_take (v := ?_) (Or.inl ⟨by rfl, ?_⟩) ?_
  rotate_left 1
  · intro w' hSw
    try dsimp only at hSw
    obtain ⟨s0, s1, s2, s3, s4⟩ := scanCells hSw.sb
    clear hSw
    go_simp
    try with_reducible rfl
  simp only [Act.put, List.setIfInBounds_toArray, List.set_cons_zero, List.set_cons_succ]
  refine heldF_take (v := ?_) (Or.inl ⟨by rfl, ?_⟩) ?_
  rotate_left 1
  · intro w' hSw
    try dsimp only at hSw
    obtain ⟨s0, s1, s2, s3, s4⟩ := scanCells hSw.sb
    clear hSw
    go_simp
    try with_reducible rfl
  simp only [Act.put, List.setIfInBounds_toArray, List.set_cons_zero, List.set_cons_succ]
  refine heldF_take (v := ?_) (Or.inl ⟨by rfl, ?_⟩) ?_
  rotate_left 1
  · intro w' hSw
    try dsimp only at hSw
    obtain ⟨s0, s1, s2, s3, s4⟩ := scanCells hSw.sb
    clear hSw
    go_simp
    try with_reducible rfl
  simp only [Act.put, List.setIfInBounds_toArray, List.set_cons_zero, List.set_cons_succ]
  refine heldF_take (v := ?_) (Or.inl ⟨by rfl, ?_⟩) ?_
  rotate_left 1
  · intro w' hSw
    try dsimp only at hSw
    obtain ⟨s0, s1, s2, s3, s4⟩ := scanCells hSw.sb
    clear hSw
    go_simp
    try with_reducible rfl
  simp only [Act.put, List.setIfInBounds_toArray, List.set_cons_zero, List.set_cons_succ]
  refine heldF_take (v := ?_) (Or.inl ⟨by rfl, ?_⟩) ?_
  rotate_left 1
  · intro w' hSw
    try dsimp only at hSw
    obtain ⟨s0, s1, s2, s3, s4⟩ := scanCells hSw.sb
    clear hSw
    go_simp
    try with_reducible rfl
  simp only [Act.put, List.setIfInBounds_toArray, List.set_cons_zero, List.set_cons_succ]
  refine heldF_take (v := ?_) (Or.inl ⟨by rfl, ?_⟩) ?_
  rotate_left 1
  · intro w' hSw
    try dsimp only at hSw
    obtain ⟨s0, s1, s2, s3, s4⟩ := scanCells hSw.sb
    clear hSw
    go_simp
    try with_reducible rfl
  simp only [Act.put, List.setIfInBounds_toArray, List.set_cons_zero, List.set_cons_succ]
  refine heldF_skip (heldF_skip (heldF_skip (heldF_skip (heldF_nil ?_))))
  have hs1 := (unhide H1).size
  refine anyH_step2 (i := 8) (j := 9) rfl rfl (by kernel_rfl) (fun K hK => ?_) (fun K hK => ?_)
  · go_simp
    have H2 := hide ((unhide H1).new (World.grownBy_alloc W1 (.cells #[.int .i64 0] 99) none))
    have N2 := hide (heap_alloc_new W1 (.cells #[.int .i64 0] 99))
    have s2 : W1.heap.size + 1 ≤ (W1.alloc (.cells #[.int .i64 0] 99)).heap.size := by simp
    refine hK.out _ _ (unhide H2) ?_
    clear hK K H1
    try simp only [Act.put, List.setIfInBounds_toArray, List.set_cons_zero, List.set_cons_succ]
    generalize (W1.alloc (.cells #[.int .i64 0] 99)) = W2 at *
    refine anyH_step1 (i := 9) rfl (by kernel_rfl) (fun K hK => ?_)
    go_simp
    have H3 := hide ((unhide H2).new (World.grownBy_alloc W2 (.cells #[.int .i64 0, .int .i64 0] 101) none))
    have N3 := hide (heap_alloc_new W2 (.cells #[.int .i64 0, .int .i64 0] 101))
    have M3 := hide (grown_atT (World.grownBy_alloc W2 (.cells #[.int .i64 0, .int .i64 0] 101) none) (unhide N2) (by simp))
    have s3 : W2.heap.size + 1 ≤ (W2.alloc (.cells #[.int .i64 0, .int .i64 0] 101)).heap.size := by simp
    refine hK.out _ _ (unhide H3) ?_
    clear hK K H2 N2
    try simp only [Act.put, List.setIfInBounds_toArray, List.set_cons_zero, List.set_cons_succ]
    generalize (W2.alloc (.cells #[.int .i64 0, .int .i64 0] 101)) = W3 at *
    refine anyH_step1 (i := 10) rfl (by kernel_rfl) (fun K hK => ?_)
    refine step_store_row (by rfl) 99 _ _ rfl (W1.heap.size) rfl #[.int .i64 lo] rfl #[.int .i64 0] 99 (unhide M3) rfl (by kernel_rfl) (by simp [Value.oneCell']) ?_
    intro W4 N4 g4
    have H4 := hide ((unhide H3).wr g4 (by omega))
    have M4 := hide (grown_atT g4 (unhide N3) (by simp; omega))
    have P4 := hide N4
    refine hK.out _ _ (unhide H4) ?_
    clear hK K H3 M3 N3 N4 g4
    try simp only [Act.put]
    refine anyH_step1 (i := 11) rfl (by kernel_rfl) (fun K hK => ?_)
    refine step_store_row (by rfl) 101 _ _ rfl (W2.heap.size) rfl #[.int .i64 hi, .int .i64 lo] rfl #[.int .i64 0, .int .i64 0] 101 (unhide M4) rfl (by kernel_rfl) (by simp [Value.oneCell']) ?_
    intro W5 N5 g5
    have H5 := hide ((unhide H4).wr g5 (by omega))
    have P5 := hide (grown_atT g5 (unhide P4) (by simp; omega))
    have M5 := hide N5
    refine hK.out _ _ (unhide H5) ?_
    clear hK K H4 M4 P4 N5 g5
    try simp only [Act.put]
    refine wpAnyH_done (by kernel_rfl) (NoPanic.normal ?_) _
    go_wp2_with (first | (refine load_row rfl 99 _ rfl (W1.heap.size) rfl #[.int .i64 lo] 99 (unhide P5) _ Try.underlying99 rfl (by kernel_rfl) ?_) | (refine load_row rfl 101 _ rfl (W2.heap.size) rfl #[.int .i64 hi, .int .i64 lo] 101 (unhide M5) _ Try.underlying101 rfl (by kernel_rfl) ?_) | (refine store_row rfl 90 _ _ rfl (w.heap.size + 1) rfl #[.func (.func 75) #[.agg #[.int .i64 lo]] #[], .func (.func 76) #[.agg #[.int .i64 hi, .int .i64 lo]] #[]] rfl #[.nilFunc, .nilFunc] 90 (unhide H5).rb rfl (by kernel_rfl) (by simp [Value.oneCell']) ?_; intro W6 hB6 g6))
    refine bodyPost_ret (v := .agg #[.func (.func 75) #[.agg #[.int .i64 lo]] #[], .func (.func 76) #[.agg #[.int .i64 hi, .int .i64 lo]] #[]]) ?_ rfl ⟨rfl, ?_⟩
    · rw [results_c1 rfl]
      exact run_loadVar_row W6 _ 90 90 _ (0, 0) _ hB6 Try.underlying90 rfl (by kernel_rfl)
    · exact grown_new (unhide H5).grown g6 (fun g e => by simp at e; omega)
  · go_simp
    have H2 := hide ((unhide H1).new (World.grownBy_alloc W1 (.cells #[.int .i64 0, .int .i64 0] 101) none))
    have N2 := hide (heap_alloc_new W1 (.cells #[.int .i64 0, .int .i64 0] 101))
    have s2 : W1.heap.size + 1 ≤ (W1.alloc (.cells #[.int .i64 0, .int .i64 0] 101)).heap.size := by simp
    refine hK.out _ _ (unhide H2) ?_
    clear hK K H1
    try simp only [Act.put, List.setIfInBounds_toArray, List.set_cons_zero, List.set_cons_succ]
    generalize (W1.alloc (.cells #[.int .i64 0, .int .i64 0] 101)) = W2 at *
    refine anyH_step1 (i := 8) rfl (by kernel_rfl) (fun K hK => ?_)
    go_simp
    have H3 := hide ((unhide H2).new (World.grownBy_alloc W2 (.cells #[.int .i64 0] 99) none))
    have N3 := hide (heap_alloc_new W2 (.cells #[.int .i64 0] 99))
    have M3 := hide (grown_atT (World.grownBy_alloc W2 (.cells #[.int .i64 0] 99) none) (unhide N2) (by simp))
    have s3 : W2.heap.size + 1 ≤ (W2.alloc (.cells #[.int .i64 0] 99)).heap.size := by simp
    refine hK.out _ _ (unhide H3) ?_
    clear hK K H2 N2
    try simp only [Act.put, List.setIfInBounds_toArray, List.set_cons_zero, List.set_cons_succ]
    generalize (W2.alloc (.cells #[.int .i64 0] 99)) = W3 at *
    refine anyH_step1 (i := 10) rfl (by kernel_rfl) (fun K hK => ?_)
    refine step_store_row (by rfl) 99 _ _ rfl (W2.heap.size) rfl #[.int .i64 lo] rfl #[.int .i64 0] 99 (unhide N3) rfl (by kernel_rfl) (by simp [Value.oneCell']) ?_
    intro W4 N4 g4
    have H4 := hide ((unhide H3).wr g4 (by omega))
    have M4 := hide (grown_atT g4 (unhide M3) (by simp; omega))
    have P4 := hide N4
    refine hK.out _ _ (unhide H4) ?_
    clear hK K H3 M3 N3 N4 g4
    try simp only [Act.put]
    refine anyH_step1 (i := 11) rfl (by kernel_rfl) (fun K hK => ?_)
    refine step_store_row (by rfl) 101 _ _ rfl (W1.heap.size) rfl #[.int .i64 hi, .int .i64 lo] rfl #[.int .i64 0, .int .i64 0] 101 (unhide M4) rfl (by kernel_rfl) (by simp [Value.oneCell']) ?_
    intro W5 N5 g5
    have H5 := hide ((unhide H4).wr g5 (by omega))
    have P5 := hide (grown_atT g5 (unhide P4) (by simp; omega))
    have M5 := hide N5
    refine hK.out _ _ (unhide H5) ?_
    clear hK K H4 M4 P4 N5 g5
    try simp only [Act.put]
    refine wpAnyH_done (by kernel_rfl) (NoPanic.normal ?_) _
    go_wp2_with (first | (refine load_row rfl 99 _ rfl (W2.heap.size) rfl #[.int .i64 lo] 99 (unhide P5) _ Try.underlying99 rfl (by kernel_rfl) ?_) | (refine load_row rfl 101 _ rfl (W1.heap.size) rfl #[.int .i64 hi, .int .i64 lo] 101 (unhide M5) _ Try.underlying101 rfl (by kernel_rfl) ?_) | (refine store_row rfl 90 _ _ rfl (w.heap.size + 1) rfl #[.func (.func 75) #[.agg #[.int .i64 lo]] #[], .func (.func 76) #[.agg #[.int .i64 hi, .int .i64 lo]] #[]] rfl #[.nilFunc, .nilFunc] 90 (unhide H5).rb rfl (by kernel_rfl) (by simp [Value.oneCell']) ?_; intro W6 hB6 g6))
    refine bodyPost_ret (v := .agg #[.func (.func 75) #[.agg #[.int .i64 lo]] #[], .func (.func 76) #[.agg #[.int .i64 hi, .int .i64 lo]] #[]]) ?_ rfl ⟨rfl, ?_⟩
    · rw [results_c1 rfl]
      exact run_loadVar_row W6 _ 90 90 _ (0, 0) _ hB6 Try.underlying90 rfl (by kernel_rfl)
    · exact grown_new (unhide H5).grown g6 (fun g e => by simp at e; omega)

end Go.Proofs.Ytfgglainjaplgaa

namespace Go.Proofs.Ytfgglainjaplgaa
open Go.RowKit

theorem anyH_take1 {P : Program} {md : Region.Mode} {Q : Exit → Act → World → Prop} {S : World → Prop} {l : List Oper} {i f : Nat} {o : Oper} {v : Value} {listed : Array Bool} {a : Act} {w : World} (ho : l[i]? = some o) (hB : (Region.noSelect l.toArray && Region.free md l.toArray listed i && (Region.ready md l.toArray listed).contains i) = true)
    (hQ : ∀ c a d v w, Q (.panic c) (Act.put a d v) w → Q (.panic c) a w) (hS : S w) (hy : YieldsIf P l.toArray S o v a) (h : wpAnyH P md l.toArray Q S f (listed.setIfInBounds i true) (a.put o.dst v) w) : wpAnyH P md l.toArray Q S (f + 1) listed a w := by
  rw [Bool.and_eq_true, Bool.and_eq_true] at hB
  exact wpAnyH_take (by simpa using ho) hB.1.1 hB.1.2 hB.2 (fun c a w hq => hQ c a _ _ w hq) hy hS h

end Go.Proofs.Ytfgglainjaplgaa
