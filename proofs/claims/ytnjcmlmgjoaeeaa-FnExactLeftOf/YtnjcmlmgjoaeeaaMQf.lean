/-
  LawLeftOf.
-/
import Derived.Test.YtnjcmlmgjoaeeaaMQe

namespace Go.Proofs.Ytnjcmlmgjoaeeaa
open Go.RowKit

set_option maxRecDepth 20000 in
set_option maxHeartbeats 6400000 in
theorem lawLeftOf (HI : Hid ImplLeft) (p wd ht rs : Int) (ao : Option Addr) (n cap : Nat) (C : Nat → Nat → Int) (v : Value) (S : List Scn) (w : World) (hr : RdC w ao n C) (hm : n ≤ maxLen) (hS : RdSsZ w v S) :
    Calls Try.prog 5 #[.agg #[.int .i64 p, .int .i64 wd, .int .i64 ht, .int .i64 rs, .slice ao n cap], v] w fun e w' => e = .returned (.bool true) ∧ Below w.heap.size w w' := by
  unfold maxLen at hm
  obtain ⟨xo, xc, rfl⟩ : ∃ xo xc, v = .slice xo S.length xc := by obtain ⟨a', c', e', _⟩ := hS.1; exact ⟨a', c', e'⟩
  obtain ⟨m, HM⟩ : ∃ m, Hid (S.length = m) := ⟨_, rfl⟩
  rw [unhide HM] at hS ⊢
  have HSZ0 := hide hS
  have HS := hide hS.rd
  clear hS
  have HR := hide hr
  clear hr
  obtain ⟨fb, HFB⟩ : ∃ fb, Hid (frameB p wd ht rs n C = fb) := ⟨_, rfl⟩
  obtain ⟨L, HL⟩ : ∃ L, Hid (leftG fb n S = L) := ⟨_, rfl⟩
  have hL1 : szR lenI L ≤ 1000 := by rw [← unhide HL]; exact sz_left (unhide HFB)
  have hL : szR lenI L ≤ 1048576 := by omega
  have hcL : cntR lenI L ≤ 1000 := by have h9 : cntR lenI L ≤ szR lenI L := (by unfold cntR szR; omega); omega
  obtain ⟨ll, HLL⟩ : ∃ ll, Hid (L.length = ll) := ⟨_, rfl⟩
  have hneg2 : decide (1 + (cntR lenI L : Int) < 0) = false := decide_eq_false (by omega)
  have hcS : cntR cntSc S ≤ 4 * szR szSc S := cnt_scans S
  have I0 := hide (In1.start w #[.int .i64 p, .int .i64 wd, .int .i64 ht, .int .i64 rs, .slice ao n cap])
  have ca := frameCells (unhide I0).fb
  by_cases hbig : (n : Int) ≤ 1048576
  · obtain ⟨lf, hlf⟩ : ∃ lf : Nat, (1048576 : Int) - (n : Int) = (lf : Int) := ⟨1048576 - n, by omega⟩
    have HSZ : Hid ((if (n : Int) ≤ 1048576 then 1048576 - (n : Int) else -1) = (lf : Int)) := (if_pos hbig).trans hlf
    have hneg : decide ((lf : Int) < 0) = false := decide_eq_false (by omega)
    have hn : n ≤ 4194304 := by omega
    have hl1 : lf ≤ 1048576 := by omega
    clear hlf
    obtain ⟨r, HR2⟩ : ∃ r : Int, Hid ((if szR szSc S ≤ lf then (lf : Int) - szR szSc S else -1) = r) := ⟨_, rfl⟩
    by_cases hsz : szR szSc S ≤ lf
    · have hr2 : decide (r < 0) = false := decide_eq_false (by have := unhide HR2; rw [if_pos hsz] at this; omega)
      have hs : szR szSc S ≤ 1048576 := by omega
      have hk2 : decide (1 + 4 * (n : Int) + (cntR cntSc S : Int) < 0) = false := decide_eq_false (by omega)
      have hcs := sz_scan hs
      have hk0 : 0 ≤ 1 + 4 * (n : Int) := by omega
      have hk1 : 1 + 4 * (n : Int) + (cntR cntSc S : Int) ≤ 16777216 := by omega
      go_enter Try.func5, Try.ntmps5
      go_wp2_with fail
      generalize (w.alloc (.cells #[.int .i64 p, .int .i64 wd, .int .i64 ht, .int .i64 rs, .slice ao n cap] 42)) = wx at *
      refine (szFrame p wd ht rs ao n cap 1048576 _ wx (by omega) (by omega) (by omega) HSZ).mono ?_
      rintro e w1 ⟨rfl, g1⟩
      have I1 := hide ((unhide I0).new g1)
      clear ca g1 I0
      go_wp2_with fail
      refine (szScanSC w1 _ S lf (RdSsZ.st (unhide HSZ0) (unhide I1).grown) hl1 r HR2).mono ?_
      rintro e w2 ⟨rfl, g2⟩
      have I2 := hide ((unhide I1).new g2)
      clear g2 I1
      have ca := frameCells (unhide I2).fb
      go_wp2_with fail
      refine (toFrame p wd ht rs ao n cap C w2 ((unhide HR).grown (unhide I2).grown) hn).mono ?_
      rintro e w3 ⟨q3, rfl, o3, g3⟩
      have RF_0 := hide (own_rdC o3)
      clear ca o3
      have I3 := hide ((unhide I2).new g3)
      have hz3 := g3.size
      clear I2 g3
      go_wp2_with fail
      refine (toScanSC w3 _ S (RdSs.st _ _ _ _ (unhide HS) (unhide I3).grown) hs).mono ?_
      rintro e w4 ⟨u4, F4, rfl, o4, n4, l4, g4⟩
      obtain ⟨so4, sc4, rfl⟩ := OwG.form o4
      rw [unhide HM] at o4 ⊢
      have RS_0 := hide (OwSs.rd o4)
      clear o4 n4 l4
      have I4 := hide ((unhide I3).new g4)
      have hz4 := g4.size
      have RF_4 := hide ((unhide RF_0).grown g4)
      clear I3 g4 RF_0
      go_wp2_with fail
      refine (specLeftOf p wd ht rs _ n n C w4 (unhide RF_4) hn _ S (unhide RS_0) (fun a ha => by have := hcs a ha; omega) fb HFB L HL).mono ?_
      rintro e w5 ⟨u5, F5, rfl, o5, nd5, l5, g5⟩
      obtain ⟨so5, sc5, rfl⟩ := OwR.form o5
      rw [unhide HLL] at o5 ⊢
      have LOW : Hid (∀ g ∈ F5, w4.heap.size ≤ g ∧ g < w5.heap.size) := fun g e => ⟨l5 g e, ok2.lt _ _ _ _ o5 g e⟩
      have NDW := hide nd5
      have W_0 := hide o5
      clear o5 nd5 l5
      clear RF_4
      clear RS_0
      have I5 := hide ((unhide I4).new g5)
      have hz5 := g5.size
      clear I4 g5
      have ca := frameCells (unhide I5).fb
      go_wp2_with fail
      refine (toFrame p wd ht rs ao n cap C w5 ((unhide HR).grown (unhide I5).grown) hn).mono ?_
      rintro e w6 ⟨q6, rfl, o6, g6⟩
      have hq : w5.heap.size ≤ q6 ∧ q6 < w6.heap.size := o6.lt q6 rfl
      have hg6 := g6.size
      have g7 := grown_alloc g6 (.cells #[.int .i64 p, .int .i64 wd, .int .i64 ht, .int .i64 rs, .slice (some ⟨q6, 0, none⟩) n n] 26)
      have hy7 : w6.heap.size < (w6.alloc (.cells #[.int .i64 p, .int .i64 wd, .int .i64 ht, .int .i64 rs, .slice (some ⟨q6, 0, none⟩) n n] 26)).heap.size := by simp
      have X0_0 := hide (Bf.new o6 p wd ht rs)
      have hI7 := (unhide I5).size
      clear ca g6 o6
      have I7 := hide ((unhide I5).new g7)
      have hz7 := g7.size
      have W_7 := hide (ok2.keep (unhide W_0) g7)
      clear I5 g7 W_0
      go_wp2_with fail
      generalize (w6.alloc (.cells #[.int .i64 p, .int .i64 wd, .int .i64 ht, .int .i64 rs, .slice (some ⟨q6, 0, none⟩) n n] 26)) = w7 at *
      refine (toScanSC w7 _ S (RdSs.st _ _ _ _ (unhide HS) (unhide I7).grown) hs).mono ?_
      rintro e w8 ⟨u8, F8, rfl, o8, n8, l8, g8⟩
      obtain ⟨so8, sc8, rfl⟩ := OwG.form o8
      rw [unhide HM] at o8 ⊢
      have LOX1 : Hid (∀ g ∈ F8, w7.heap.size ≤ g ∧ g < w8.heap.size) := fun g e => ⟨l8 g e, OwSs.ok.lt _ _ _ _ o8 g e⟩
      have NDX1 := hide n8
      have X1_0 := hide o8
      clear o8 n8 l8
      have I8 := hide ((unhide I7).new g8)
      have hz8 := g8.size
      have W_8 := hide (ok2.keep (unhide W_7) g8)
      have X0_8 := hide ((unhide X0_0).keep g8)
      clear I7 g8 W_7 X0_0
      have cx := frameCells (unhide X0_8).box
      go_wp2_with fail
      clear cx
      refine (unhide HI p wd ht rs _ n n C _ S w8 (unhide X0_8).rd hn (OwSs.rd (unhide X1_0)) hs fb HFB L HL).mono ?_
      rintro e w9 ⟨u9, F9, rfl, o9, nd9, l9, g9⟩
      obtain ⟨so9, sc9, rfl⟩ := OwR.form o9
      rw [unhide HLL] at o9 ⊢
      have LOY : Hid (∀ g ∈ F9, w8.heap.size ≤ g ∧ g < w9.heap.size) := fun g e => ⟨l9 g e, ok2.lt _ _ _ _ o9 g e⟩
      have NDY := hide nd9
      have Y_0 := hide o9
      clear o9 nd9 l9
      have I9 := hide ((unhide I8).new g9)
      have hz9 := g9.size
      have W_9 := hide (ok2.keep (unhide W_8) g9)
      have X0_9 := hide ((unhide X0_8).keep g9)
      have X1_9 := hide (OwSs.ok.keep (unhide X1_0) g9)
      clear I8 g9 W_8 X0_8 X1_0
      go_wp2_with fail
      refine (eqIntSSC w9 _ _ L (OwR.rd (Q := RdI .i64) (fun _ _ _ _ h => h.rd) (unhide Y_0)) (OwR.rd (Q := RdI .i64) (fun _ _ _ _ h => h.rd) (unhide W_9)) hL).mono ?_
      rintro e w10 ⟨rfl, g10⟩
      have I10 := hide ((unhide I9).new g10)
      have hz10 := g10.size
      have W_10 := hide (ok2.keep (unhide W_9) g10)
      have X0_10 := hide ((unhide X0_9).keep g10)
      have X1_10 := hide (OwSs.ok.keep (unhide X1_9) g10)
      have Y_10 := hide (ok2.keep (unhide Y_0) g10)
      clear I9 g10 W_9 X0_9 X1_9 Y_0
      go_wp2
      refine wp_region_noPanic ?_
      have gd := grown_drew (World.grownBy.refl w10 none)
      have I11 := hide ((unhide I10).new gd)
      have hz11 := gd.size
      have W_11 := hide (ok2.keep (unhide W_10) gd)
      have X0_11 := hide ((unhide X0_10).keep gd)
      have X1_11 := hide (OwSs.ok.keep (unhide X1_10) gd)
      have Y_11 := hide (ok2.keep (unhide Y_10) gd)
      clear I10 gd W_10 X0_10 X1_10 Y_10
      refine wp_region_tailL 20 (fun W => In1 w W #[.int .i64 p, .int .i64 wd, .int .i64 ht, .int .i64 rs, .slice ao n cap] ∧ Bf W w6.heap.size p wd ht rs q6 n _ C) [true, true, false, false, false] (by kernel_rfl) (fun _ _ _ _ _ h => h) rfl (by decide) (by kernel_rfl) ⟨(unhide I11), (unhide X0_11)⟩ ?_
      generalize w10.drew = w11 at *
      refine heldF_take (v := ?_) (Or.inl ⟨by rfl, ?_⟩) ?_
      rotate_left 1
      · intro w' hSw
        try dsimp only at hSw
        have s1 := frameCells hSw.2.box
        go_simp
        try with_reducible rfl
      simp only [Act.put, List.setIfInBounds_toArray, List.set_cons_zero, List.set_cons_succ]
      refine heldF_take (v := ?_) (Or.inl ⟨by rfl, ?_⟩) ?_
      rotate_left 1
      · intro w' hSw
        try dsimp only at hSw
        have s1 := frameCells hSw.1.fb
        go_simp
        try with_reducible rfl
      simp only [Act.put, List.setIfInBounds_toArray, List.set_cons_zero, List.set_cons_succ]
      refine heldF_skip (heldF_skip (heldF_skip (heldF_nil ?_)))
      refine tailL_skip (tailL_skip (tailL_step (fun K hK => ?_)))
      go_simp
      refine (toFrame p wd ht rs ao n cap C w11 ((unhide HR).grown (unhide I11).grown) hn).mono ?_
      rintro e w12 ⟨q12, rfl, o12, g12⟩
      have RF_0 := hide (own_rdC o12)
      clear o12
      have I12 := hide ((unhide I11).new g12)
      have hz12 := g12.size
      have W_12 := hide (ok2.keep (unhide W_11) g12)
      have X0_12 := hide ((unhide X0_11).keep g12)
      have X1_12 := hide (OwSs.ok.keep (unhide X1_11) g12)
      have Y_12 := hide (ok2.keep (unhide Y_11) g12)
      clear I11 g12 W_11 X0_11 X1_11 Y_11
      go_simp
      refine hK.out _ _ (.inr ⟨(unhide I12), (unhide X0_12)⟩) ?_
      clear hK K
      refine tailL_step (fun K hK => ?_)
      go_simp
      refine (eqFrame p wd ht rs _ _ n n n C w12 (unhide X0_12).rd (unhide RF_0) hn).mono ?_
      rintro e w13 ⟨rfl, g13⟩
      clear RF_0
      have I13 := hide ((unhide I12).new g13)
      have hz13 := g13.size
      have W_13 := hide (ok2.keep (unhide W_12) g13)
      have X0_13 := hide ((unhide X0_12).keep g13)
      have X1_13 := hide (OwSs.ok.keep (unhide X1_12) g13)
      have Y_13 := hide (ok2.keep (unhide Y_12) g13)
      clear I12 g13 W_12 X0_12 X1_12 Y_12
      go_simp
      refine hK.out _ _ (.inr ⟨(unhide I13), (unhide X0_13)⟩) ?_
      clear hK K
      refine tailL_step (fun K hK => ?_)
      go_simp
      refine hK.out _ _ (.inl rfl) ?_
      clear hK K
      refine tailL_nil (NoPanic.normal ?_)
      go_wp2_with fail
      refine (toScanSC w13 _ S (RdSs.st _ _ _ _ (unhide HS) (unhide I13).grown) hs).mono ?_
      rintro e w14 ⟨u14, F14, rfl, o14, n14, l14, g14⟩
      obtain ⟨so14, sc14, rfl⟩ := OwG.form o14
      rw [unhide HM] at o14 ⊢
      have OG := hide (OwSs.rd o14)
      clear o14 n14 l14
      have I14 := hide ((unhide I13).new g14)
      have hz14 := g14.size
      have W_14 := hide (ok2.keep (unhide W_13) g14)
      have X0_14 := hide ((unhide X0_13).keep g14)
      have X1_14 := hide (OwSs.ok.keep (unhide X1_13) g14)
      have Y_14 := hide (ok2.keep (unhide Y_13) g14)
      clear I13 g14 W_13 X0_13 X1_13 Y_13
      go_wp2_with fail
      refine (eqScanSC w14 _ _ S (OwSs.rd (unhide X1_14)) (unhide OG) hs).mono ?_
      rintro e w15 ⟨rfl, g15⟩
      clear OG
      have I15 := hide ((unhide I14).new g15)
      have hz15 := g15.size
      have W_15 := hide (ok2.keep (unhide W_14) g15)
      have X0_15 := hide ((unhide X0_14).keep g15)
      have X1_15 := hide (OwSs.ok.keep (unhide X1_14) g15)
      have Y_15 := hide (ok2.keep (unhide Y_14) g15)
      clear I14 g15 W_14 X0_14 X1_14 Y_14
      have cx := frameCells (unhide X0_15).box
      go_wp2_with fail
      refine (markFrame p wd ht rs _ n _ _ C 1 w15 (unhide X0_15).own hn (by omega) (by omega)).mono ?_
      rintro e w16 ⟨rfl, _, gb16⟩
      have g16 : Wr [q6] w15 w16 := Wr.ofRow gb16 (fun g e => by have e9 : q6 = g := Option.some.inj e; simp [e9])
      clear cx gb16
      have LOQ : Hid (∀ g ∈ [q6], w.heap.size + 1 ≤ g ∧ g = q6) := fun g e => by simp at e; omega
      have I16 := hide ((unhide I15).wr g16 (fun x hx => by have := unhide LOQ x hx; omega))
      have hz16 := g16.size
      have W_16 := hide (ok2.wr (unhide W_15) g16 (fun x hx e => by have := unhide LOQ x e; have := unhide LOW x hx; omega))
      have X1_16 := hide (OwSs.ok.wr (unhide X1_15) g16 (fun x hx e => by have := unhide LOQ x e; have := unhide LOX1 x hx; omega))
      have Y_16 := hide (ok2.wr (unhide Y_15) g16 (fun x hx e => by have := unhide LOQ x e; have := unhide LOY x hx; omega))
      clear I15 g16 W_15 X0_15 X1_15 Y_15
      generalize (1 : Int) + 4 * (n : Int) = pk at *
      go_wp2_with fail
      refine (markScanSC w16 _ S F8 pk (unhide X1_16) (unhide NDX1) hs (by omega) (by omega)).mono ?_
      rintro e w17 ⟨rfl, _, g17⟩
      have I17 := hide ((unhide I16).wr g17 (fun x hx => by have := unhide LOX1 x hx; omega))
      have hz17 := g17.size
      have W_17 := hide (ok2.wr (unhide W_16) g17 (fun x hx e => by have := unhide LOX1 x e; have := unhide LOW x hx; omega))
      have Y_17 := hide (ok2.wr (unhide Y_16) g17 (fun x hx e => by have := unhide LOX1 x e; have := unhide LOY x hx; omega))
      clear I16 g17 W_16 X1_16 Y_16
      go_wp2_with fail
      refine (eqIntSSC w17 _ _ L (OwR.rd (Q := RdI .i64) (fun _ _ _ _ h => h.rd) (unhide Y_17)) (OwR.rd (Q := RdI .i64) (fun _ _ _ _ h => h.rd) (unhide W_17)) hL).mono ?_
      rintro e w18 ⟨rfl, g18⟩
      have I18 := hide ((unhide I17).new g18)
      have hz18 := g18.size
      have W_18 := hide (ok2.keep (unhide W_17) g18)
      have Y_18 := hide (ok2.keep (unhide Y_17) g18)
      clear I17 g18 W_17 Y_17
      go_wp2_with fail
      refine (markIntSSC w18 _ L F9 1 (unhide Y_18) (unhide NDY) hL (by omega) (by omega)).mono ?_
      rintro e w19 ⟨rfl, oy, g19⟩
      have Y_m := hide oy
      clear oy
      have I19 := hide ((unhide I18).wr g19 (fun x hx => by have := unhide LOY x hx; omega))
      have hz19 := g19.size
      have W_19 := hide (ok2.wr (unhide W_18) g19 (fun x hx e => by have := unhide LOY x e; have := unhide LOW x hx; omega))
      clear I18 g19 W_18 Y_18
      go_wp2_with fail
      refine (heldIntSSC w19 _ L 1 (OwR.rd (Q := RdI .i64) (fun _ _ _ _ h => h.rd) (unhide Y_m)) hL (by omega) (by omega)).mono ?_
      rintro e w20 ⟨rfl, g20⟩
      have I20 := hide ((unhide I19).new g20)
      have hz20 := g20.size
      have W_20 := hide (ok2.keep (unhide W_19) g20)
      have Y_20 := hide (ok2.keep (unhide Y_m) g20)
      clear I19 g20 W_19 Y_m
      have ca := frameCells (unhide I20).fb
      go_wp2_with fail
      refine (toFrame p wd ht rs ao n cap C w20 ((unhide HR).grown (unhide I20).grown) hn).mono ?_
      rintro e w21 ⟨q21, rfl, o21, g21⟩
      have RF_0 := hide (own_rdC o21)
      clear ca o21
      have I21 := hide ((unhide I20).new g21)
      have hz21 := g21.size
      have W_21 := hide (ok2.keep (unhide W_20) g21)
      have Y_21 := hide (ok2.keep (unhide Y_20) g21)
      clear I20 g21 W_20 Y_20
      go_wp2_with fail
      refine (toScanSC w21 _ S (RdSs.st _ _ _ _ (unhide HS) (unhide I21).grown) hs).mono ?_
      rintro e w22 ⟨u22, F22, rfl, o22, n22, l22, g22⟩
      obtain ⟨so22, sc22, rfl⟩ := OwG.form o22
      rw [unhide HM] at o22 ⊢
      have RS_0 := hide (OwSs.rd o22)
      clear o22 n22 l22
      have I22 := hide ((unhide I21).new g22)
      have hz22 := g22.size
      have W_22 := hide (ok2.keep (unhide W_21) g22)
      have Y_22 := hide (ok2.keep (unhide Y_21) g22)
      have RF_22 := hide ((unhide RF_0).grown g22)
      clear I21 g22 W_21 Y_21 RF_0
      go_wp2_with fail
      refine (unhide HI p wd ht rs _ n n C _ S w22 (unhide RF_22) hn (unhide RS_0) hs fb HFB L HL).mono ?_
      rintro e w23 ⟨u23, F23, rfl, o23, nd23, l23, g23⟩
      obtain ⟨so23, sc23, rfl⟩ := OwR.form o23
      rw [unhide HLL] at o23 ⊢
      have LOH : Hid (∀ g ∈ F23, w22.heap.size ≤ g ∧ g < w23.heap.size) := fun g e => ⟨l23 g e, ok2.lt _ _ _ _ o23 g e⟩
      have NDH := hide nd23
      have H_0 := hide o23
      clear o23 nd23 l23
      clear RF_22
      clear RS_0
      have I23 := hide ((unhide I22).new g23)
      have hz23 := g23.size
      have W_23 := hide (ok2.keep (unhide W_22) g23)
      have Y_23 := hide (ok2.keep (unhide Y_22) g23)
      clear I22 g23 W_22 Y_22
      go_wp2_with fail
      refine (eqIntSSC w23 _ _ L (OwR.rd (Q := RdI .i64) (fun _ _ _ _ h => h.rd) (unhide H_0)) (OwR.rd (Q := RdI .i64) (fun _ _ _ _ h => h.rd) (unhide W_23)) hL).mono ?_
      rintro e w24 ⟨rfl, g24⟩
      have I24 := hide ((unhide I23).new g24)
      have hz24 := g24.size
      have W_24 := hide (ok2.keep (unhide W_23) g24)
      have Y_24 := hide (ok2.keep (unhide Y_23) g24)
      have H_24 := hide (ok2.keep (unhide H_0) g24)
      clear I23 g24 W_23 Y_23 H_0
      go_wp2_with fail
      refine (heldIntSSC w24 _ L 1 (OwR.rd (Q := RdI .i64) (fun _ _ _ _ h => h.rd) (unhide Y_24)) hL (by omega) (by omega)).mono ?_
      rintro e w25 ⟨rfl, g25⟩
      have I25 := hide ((unhide I24).new g25)
      have hz25 := g25.size
      have W_25 := hide (ok2.keep (unhide W_24) g25)
      have Y_25 := hide (ok2.keep (unhide Y_24) g25)
      have H_25 := hide (ok2.keep (unhide H_24) g25)
      clear I24 g25 W_24 Y_24 H_24
      go_wp2
      go_ret
      exact ⟨rfl, grown_below (unhide I25).grown⟩
    · have hr2 : decide (r < 0) = true := decide_eq_true (by have := unhide HR2; rw [if_neg hsz] at this; omega)
      go_enter Try.func5, Try.ntmps5
      go_wp2_with fail
      generalize (w.alloc (.cells #[.int .i64 p, .int .i64 wd, .int .i64 ht, .int .i64 rs, .slice ao n cap] 42)) = wx at *
      refine (szFrame p wd ht rs ao n cap 1048576 _ wx (by omega) (by omega) (by omega) HSZ).mono ?_
      rintro e w1 ⟨rfl, g1⟩
      have I1 := hide ((unhide I0).new g1)
      clear ca g1 I0
      go_wp2_with fail
      refine (szScanSC w1 _ S lf (RdSsZ.st (unhide HSZ0) (unhide I1).grown) hl1 r HR2).mono ?_
      rintro e w2 ⟨rfl, g2⟩
      have I2 := hide ((unhide I1).new g2)
      clear g2 I1
      go_wp2
      go_ret
      exact ⟨rfl, grown_below (unhide I2).grown⟩
  · have HSZ : Hid ((if (n : Int) ≤ 1048576 then 1048576 - (n : Int) else -1) = -1) := if_neg hbig
    go_enter Try.func5, Try.ntmps5
    go_wp2_with fail
    generalize (w.alloc (.cells #[.int .i64 p, .int .i64 wd, .int .i64 ht, .int .i64 rs, .slice ao n cap] 42)) = wx at *
    refine (szFrame p wd ht rs ao n cap 1048576 _ wx (by omega) (by omega) (by omega) HSZ).mono ?_
    rintro e w1 ⟨rfl, g1⟩
    have I1 := hide ((unhide I0).new g1)
    clear ca g1 I0
    go_wp2
    go_ret
    exact ⟨rfl, grown_below (unhide I1).grown⟩

end Go.Proofs.Ytnjcmlmgjoaeeaa
