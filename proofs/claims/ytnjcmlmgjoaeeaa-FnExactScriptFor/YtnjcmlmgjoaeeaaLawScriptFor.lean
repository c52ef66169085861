/-
  The walk of the law on ScriptFor (written by law_scripts.py).
-/
import Derived.Test.YtnjcmlmgjoaeeaaScriptGive
import Derived.Test.YtnjcmlmgjoaeeaaScriptFor2
import Derived.Test.YtnjcmlmgjoaeeaaHeldLast
namespace Go.Proofs.Ytnjcmlmgjoaeeaa
open Go.RowKit

set_option maxRecDepth 20000 in
set_option maxHeartbeats 6400000 in
theorem lawScriptFor (HI : Hid ImplScript) (p wd ht rs : Int) (ao : Option Addr) (n cap : Nat) (C : Nat → Nat → Int) (kind : Int) (w : World) (hr : RdC w ao n C) (hm : n ≤ maxLen) :
    Calls Try.prog 7 #[.agg #[.int .i64 p, .int .i64 wd, .int .i64 ht, .int .i64 rs, .slice ao n cap], .int .i64 kind] w fun e w' => e = .returned (.bool true) ∧ Below w.heap.size w w' := by
  unfold maxLen at hm
  have HR := hide hr
  clear hr
  obtain ⟨fb, HFB⟩ : ∃ fb, Hid (frameB p wd ht rs n C = fb) := ⟨_, rfl⟩
  obtain ⟨L, HL⟩ : ∃ L, Hid (scriptG fb n kind = L) := ⟨_, rfl⟩
  have hL1 : szR szSc L ≤ 1000 := by rw [← unhide HL]; exact sz_script (unhide HFB)
  have hL : szR szSc L ≤ 1048576 := by omega
  have hcL : cntR cntSc L ≤ 4 * szR szSc L := cnt_scans L
  obtain ⟨ll, HLL⟩ : ∃ ll, Hid (L.length = ll) := ⟨_, rfl⟩
  have hneg2 : decide (1 + (cntR cntSc L : Int) < 0) = false := decide_eq_false (by omega)
  have I0 := hide (In1.start w #[.int .i64 p, .int .i64 wd, .int .i64 ht, .int .i64 rs, .slice ao n cap])
  have ca := frameCells (unhide I0).fb
  by_cases hbig : (n : Int) ≤ 1048576
  · obtain ⟨lf, hlf⟩ : ∃ lf : Nat, (1048576 : Int) - (n : Int) = (lf : Int) := ⟨1048576 - n, by omega⟩
    have HSZ : Hid ((if (n : Int) ≤ 1048576 then 1048576 - (n : Int) else -1) = (lf : Int)) := (if_pos hbig).trans hlf
    have hneg : decide ((lf : Int) < 0) = false := decide_eq_false (by omega)
    have hn : n ≤ 4194304 := by omega
    have hl1 : lf ≤ 1048576 := by omega
    clear hlf
    have hk2 : decide (1 + 4 * (n : Int) < 0) = false := decide_eq_false (by omega)
    go_enter Try.func7, Try.ntmps7
    go_wp2_with fail
    generalize (w.alloc (.cells #[.int .i64 p, .int .i64 wd, .int .i64 ht, .int .i64 rs, .slice ao n cap] 42)) = wx at *
    refine (szFrame p wd ht rs ao n cap 1048576 _ wx (by omega) (by omega) (by omega) HSZ).mono ?_
    rintro e w1 ⟨rfl, g1⟩
    have I1 := hide ((unhide I0).new g1)
    clear ca g1 I0
    have ca := frameCells (unhide I1).fb
    go_wp2_with fail
    refine (toFrame p wd ht rs ao n cap C w1 ((unhide HR).grown (unhide I1).grown) hn).mono ?_
    rintro e w3 ⟨q3, rfl, o3, g3⟩
    have RF_0 := hide (own_rdC o3)
    clear ca o3
    have I3 := hide ((unhide I1).new g3)
    have hz3 := g3.size
    clear I1 g3
    go_wp2_with fail
    refine (specScriptFor p wd ht rs _ n n C w3 (unhide RF_0) kind fb HFB L HL).mono ?_
    rintro e w4 ⟨u4, F4, rfl, o4, nd4, l4, g4⟩
    obtain ⟨so4, sc4, rfl⟩ := OwG.form o4
    rw [unhide HLL] at o4 ⊢
    have LOW : Hid (∀ g ∈ F4, w3.heap.size ≤ g ∧ g < w4.heap.size) := fun g e => ⟨l4 g e, OwSs.ok.lt _ _ _ _ o4 g e⟩
    have NDW := hide nd4
    have W_0 := hide o4
    clear o4 nd4 l4
    clear RF_0
    have I4 := hide ((unhide I3).new g4)
    have hz4 := g4.size
    clear I3 g4
    have ca := frameCells (unhide I4).fb
    go_wp2_with fail
    refine (toFrame p wd ht rs ao n cap C w4 ((unhide HR).grown (unhide I4).grown) hn).mono ?_
    rintro e w5 ⟨q5, rfl, o5, g5⟩
    have hq : w4.heap.size ≤ q5 ∧ q5 < w5.heap.size := o5.lt q5 rfl
    have hg5 := g5.size
    have g6 := grown_alloc g5 (.cells #[.int .i64 p, .int .i64 wd, .int .i64 ht, .int .i64 rs, .slice (some ⟨q5, 0, none⟩) n n] 26)
    have hy6 : w5.heap.size < (w5.alloc (.cells #[.int .i64 p, .int .i64 wd, .int .i64 ht, .int .i64 rs, .slice (some ⟨q5, 0, none⟩) n n] 26)).heap.size := by simp
    have X0_0 := hide (Bf.new o5 p wd ht rs)
    have hI6 := (unhide I4).size
    clear ca g5 o5
    have I6 := hide ((unhide I4).new g6)
    have hz6 := g6.size
    have W_6 := hide (OwSs.ok.keep (unhide W_0) g6)
    clear I4 g6 W_0
    have cx := frameCells (unhide X0_0).box
    go_wp2_with fail
    generalize (w5.alloc (.cells #[.int .i64 p, .int .i64 wd, .int .i64 ht, .int .i64 rs, .slice (some ⟨q5, 0, none⟩) n n] 26)) = w6 at *
    clear cx
    refine (unhide HI p wd ht rs _ n n C kind w6 (unhide X0_0).rd hn fb HFB L HL).mono ?_
    rintro e w7 ⟨u7, F7, rfl, o7, nd7, l7, g7⟩
    obtain ⟨so7, sc7, rfl⟩ := OwG.form o7
    rw [unhide HLL] at o7 ⊢
    have LOY : Hid (∀ g ∈ F7, w6.heap.size ≤ g ∧ g < w7.heap.size) := fun g e => ⟨l7 g e, OwSs.ok.lt _ _ _ _ o7 g e⟩
    have NDY := hide nd7
    have Y_0 := hide o7
    clear o7 nd7 l7
    have I7 := hide ((unhide I6).new g7)
    have hz7 := g7.size
    have W_7 := hide (OwSs.ok.keep (unhide W_6) g7)
    have X0_7 := hide ((unhide X0_0).keep g7)
    clear I6 g7 W_6 X0_0
    go_wp2_with fail
    refine (eqScanSC w7 _ _ L (OwSs.rd (unhide Y_0)) (OwSs.rd (unhide W_7)) hL).mono ?_
    rintro e w8 ⟨rfl, g8⟩
    have I8 := hide ((unhide I7).new g8)
    have hz8 := g8.size
    have W_8 := hide (OwSs.ok.keep (unhide W_7) g8)
    have X0_8 := hide ((unhide X0_7).keep g8)
    have Y_8 := hide (OwSs.ok.keep (unhide Y_0) g8)
    clear I7 g8 W_7 X0_7 Y_0
    go_wp2
    refine wp_region_noPanic ?_
    have gd := grown_drew (World.grownBy.refl w8 none)
    have I9 := hide ((unhide I8).new gd)
    have hz9 := gd.size
    have W_9 := hide (OwSs.ok.keep (unhide W_8) gd)
    have X0_9 := hide ((unhide X0_8).keep gd)
    have Y_9 := hide (OwSs.ok.keep (unhide Y_8) gd)
    clear I8 gd W_8 X0_8 Y_8
    refine wp_region_tailL 20 (fun W => In1 w W #[.int .i64 p, .int .i64 wd, .int .i64 ht, .int .i64 rs, .slice ao n cap] ∧ Bf W w5.heap.size p wd ht rs q5 n _ C) [true, true, false, false, false] (by kernel_rfl) (fun _ _ _ _ _ h => h) rfl (by decide) (by kernel_rfl) ⟨(unhide I9), (unhide X0_9)⟩ ?_
    generalize w8.drew = w9 at *
    refine heldF_take (v := ?_) (Or.inl ⟨by rfl, ?_⟩) ?_
    rotate_left 1
    · intro w' hSw
      try dsimp only at hSw
      have s1 := frameCells hSw.2.box
      go_simp
      try with_reducible rfl
    simp only [Act.put, List.setIfInBounds_toArray, List.set_cons_zero, List.set_cons_succ]
    refine heldF_take (v := ?_) (Or.inl ⟨by rfl, ?_⟩) ?_
    rotate_left 1
    · intro w' hSw
      try dsimp only at hSw
      have s1 := frameCells hSw.1.fb
      go_simp
      try with_reducible rfl
    simp only [Act.put, List.setIfInBounds_toArray, List.set_cons_zero, List.set_cons_succ]
    refine heldF_skip (heldF_skip (heldF_skip (heldF_nil ?_)))
    refine tailL_skip (tailL_skip (tailL_step (fun K hK => ?_)))
    go_simp
    refine (toFrame p wd ht rs ao n cap C w9 ((unhide HR).grown (unhide I9).grown) hn).mono ?_
    rintro e w10 ⟨q10, rfl, o10, g10⟩
    have RF_0 := hide (own_rdC o10)
    clear o10
    have I10 := hide ((unhide I9).new g10)
    have hz10 := g10.size
    have W_10 := hide (OwSs.ok.keep (unhide W_9) g10)
    have X0_10 := hide ((unhide X0_9).keep g10)
    have Y_10 := hide (OwSs.ok.keep (unhide Y_9) g10)
    clear I9 g10 W_9 X0_9 Y_9
    go_simp
    refine hK.out _ _ (.inr ⟨(unhide I10), (unhide X0_10)⟩) ?_
    clear hK K
    refine tailL_step (fun K hK => ?_)
    go_simp
    refine (eqFrame p wd ht rs _ _ n n n C w10 (unhide X0_10).rd (unhide RF_0) hn).mono ?_
    rintro e w11 ⟨rfl, g11⟩
    clear RF_0
    have I11 := hide ((unhide I10).new g11)
    have hz11 := g11.size
    have W_11 := hide (OwSs.ok.keep (unhide W_10) g11)
    have X0_11 := hide ((unhide X0_10).keep g11)
    have Y_11 := hide (OwSs.ok.keep (unhide Y_10) g11)
    clear I10 g11 W_10 X0_10 Y_10
    go_simp
    refine hK.out _ _ (.inr ⟨(unhide I11), (unhide X0_11)⟩) ?_
    clear hK K
    refine tailL_step (fun K hK => ?_)
    go_simp
    refine hK.out _ _ (.inl rfl) ?_
    clear hK K
    refine tailL_nil (NoPanic.normal ?_)
    have cx := frameCells (unhide X0_11).box
    go_wp2_with fail
    refine (markFrame p wd ht rs _ n _ _ C 1 w11 (unhide X0_11).own hn (by omega) (by omega)).mono ?_
    rintro e w12 ⟨rfl, _, gb12⟩
    have g12 : Wr [q5] w11 w12 := Wr.ofRow gb12 (fun g e => by have e9 : q5 = g := Option.some.inj e; simp [e9])
    clear cx gb12
    have LOQ : Hid (∀ g ∈ [q5], w.heap.size + 1 ≤ g ∧ g = q5) := fun g e => by simp at e; omega
    have I12 := hide ((unhide I11).wr g12 (fun x hx => by have := unhide LOQ x hx; omega))
    have hz12 := g12.size
    have W_12 := hide (OwSs.ok.wr (unhide W_11) g12 (fun x hx e => by have := unhide LOQ x e; have := unhide LOW x hx; omega))
    have Y_12 := hide (OwSs.ok.wr (unhide Y_11) g12 (fun x hx e => by have := unhide LOQ x e; have := unhide LOY x hx; omega))
    clear I11 g12 W_11 X0_11 Y_11
    generalize (1 : Int) + 4 * (n : Int) = pk at *
    go_wp2_with fail
    refine (eqScanSC w12 _ _ L (OwSs.rd (unhide Y_12)) (OwSs.rd (unhide W_12)) hL).mono ?_
    rintro e w13 ⟨rfl, g13⟩
    have I13 := hide ((unhide I12).new g13)
    have hz13 := g13.size
    have W_13 := hide (OwSs.ok.keep (unhide W_12) g13)
    have Y_13 := hide (OwSs.ok.keep (unhide Y_12) g13)
    clear I12 g13 W_12 Y_12
    go_wp2_with fail
    refine (markScanSC w13 _ L F7 1 (unhide Y_13) (unhide NDY) hL (by omega) (by omega)).mono ?_
    rintro e w14 ⟨rfl, oy, g14⟩
    have Y_m := hide oy
    clear oy
    have I14 := hide ((unhide I13).wr g14 (fun x hx => by have := unhide LOY x hx; omega))
    have hz14 := g14.size
    have W_14 := hide (OwSs.ok.wr (unhide W_13) g14 (fun x hx e => by have := unhide LOY x e; have := unhide LOW x hx; omega))
    clear I13 g14 W_13 Y_13
    go_wp2_with fail
    refine (heldScanSC w14 _ L 1 (OwSs.rd (unhide Y_m)) hL (by omega) (by omega)).mono ?_
    rintro e w15 ⟨rfl, g15⟩
    have I15 := hide ((unhide I14).new g15)
    have hz15 := g15.size
    have W_15 := hide (OwSs.ok.keep (unhide W_14) g15)
    have Y_15 := hide (OwSs.ok.keep (unhide Y_m) g15)
    clear I14 g15 W_14 Y_m
    have ca := frameCells (unhide I15).fb
    go_wp2_with fail
    refine (toFrame p wd ht rs ao n cap C w15 ((unhide HR).grown (unhide I15).grown) hn).mono ?_
    rintro e w16 ⟨q16, rfl, o16, g16⟩
    have RF_0 := hide (own_rdC o16)
    clear ca o16
    have I16 := hide ((unhide I15).new g16)
    have hz16 := g16.size
    have W_16 := hide (OwSs.ok.keep (unhide W_15) g16)
    have Y_16 := hide (OwSs.ok.keep (unhide Y_15) g16)
    clear I15 g16 W_15 Y_15
    go_wp2_with fail
    refine (unhide HI p wd ht rs _ n n C kind w16 (unhide RF_0) hn fb HFB L HL).mono ?_
    rintro e w17 ⟨u17, F17, rfl, o17, nd17, l17, g17⟩
    obtain ⟨so17, sc17, rfl⟩ := OwG.form o17
    rw [unhide HLL] at o17 ⊢
    have LOH : Hid (∀ g ∈ F17, w16.heap.size ≤ g ∧ g < w17.heap.size) := fun g e => ⟨l17 g e, OwSs.ok.lt _ _ _ _ o17 g e⟩
    have NDH := hide nd17
    have H_0 := hide o17
    clear o17 nd17 l17
    clear RF_0
    have I17 := hide ((unhide I16).new g17)
    have hz17 := g17.size
    have W_17 := hide (OwSs.ok.keep (unhide W_16) g17)
    have Y_17 := hide (OwSs.ok.keep (unhide Y_16) g17)
    clear I16 g17 W_16 Y_16
    go_wp2_with fail
    refine (eqScanSC w17 _ _ L (OwSs.rd (unhide H_0)) (OwSs.rd (unhide W_17)) hL).mono ?_
    rintro e w18 ⟨rfl, g18⟩
    have I18 := hide ((unhide I17).new g18)
    have hz18 := g18.size
    have W_18 := hide (OwSs.ok.keep (unhide W_17) g18)
    have Y_18 := hide (OwSs.ok.keep (unhide Y_17) g18)
    have H_18 := hide (OwSs.ok.keep (unhide H_0) g18)
    clear I17 g18 W_17 Y_17 H_0
    go_wp2_with fail
    refine (heldScanSC w18 _ L 1 (OwSs.rd (unhide Y_18)) hL (by omega) (by omega)).mono ?_
    rintro e w19 ⟨rfl, g19⟩
    have I19 := hide ((unhide I18).new g19)
    have hz19 := g19.size
    have W_19 := hide (OwSs.ok.keep (unhide W_18) g19)
    have Y_19 := hide (OwSs.ok.keep (unhide Y_18) g19)
    have H_19 := hide (OwSs.ok.keep (unhide H_18) g19)
    clear I18 g19 W_18 Y_18 H_18
    go_wp2
    go_ret
    exact ⟨rfl, grown_below (unhide I19).grown⟩
  · have HSZ : Hid ((if (n : Int) ≤ 1048576 then 1048576 - (n : Int) else -1) = -1) := if_neg hbig
    go_enter Try.func7, Try.ntmps7
    go_wp2_with fail
    generalize (w.alloc (.cells #[.int .i64 p, .int .i64 wd, .int .i64 ht, .int .i64 rs, .slice ao n cap] 42)) = wx at *
    refine (szFrame p wd ht rs ao n cap 1048576 _ wx (by omega) (by omega) (by omega) HSZ).mono ?_
    rintro e w1 ⟨rfl, g1⟩
    have I1 := hide ((unhide I0).new g1)
    clear ca g1 I0
    go_wp2
    go_ret
    exact ⟨rfl, grown_below (unhide I1).grown⟩

end Go.Proofs.Ytnjcmlmgjoaeeaa
