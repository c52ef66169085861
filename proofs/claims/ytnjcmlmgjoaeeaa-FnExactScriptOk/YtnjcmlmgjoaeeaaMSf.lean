/-
  LawScriptOk.
-/
import Derived.Test.YtnjcmlmgjoaeeaaMSe

namespace Go.Proofs.Ytnjcmlmgjoaeeaa
open Go.RowKit

set_option maxRecDepth 20000 in
set_option maxHeartbeats 6400000 in
theorem lawScriptOk (HI : Hid ImplScriptOk) (p wd ht rs : Int) (ao : Option Addr) (n cap : Nat) (C : Nat → Nat → Int) (v : Value) (S : List Scn) (w : World) (hr : RdC w ao n C) (hm : n ≤ maxLen) (hS : RdSsZ w v S) :
    Calls Try.prog 6 #[.agg #[.int .i64 p, .int .i64 wd, .int .i64 ht, .int .i64 rs, .slice ao n cap], v] w fun e w' => e = .returned (.bool true) ∧ Below w.heap.size w w' := by
  unfold maxLen at hm
  obtain ⟨xo, xc, rfl⟩ : ∃ xo xc, v = .slice xo S.length xc := by obtain ⟨a', c', e', _⟩ := hS.1; exact ⟨a', c', e'⟩
  obtain ⟨m, HM⟩ : ∃ m, Hid (S.length = m) := ⟨_, rfl⟩
  rw [unhide HM] at hS ⊢
  have HSZ0 := hide hS
  have HS := hide hS.rd
  clear hS
  have HR := hide hr
  clear hr
  obtain ⟨fb, HFB⟩ : ∃ fb, Hid (frameB p wd ht rs n C = fb) := ⟨_, rfl⟩
  obtain ⟨t, HT⟩ : ∃ t, Hid (scriptB fb n S = t) := ⟨_, rfl⟩
  have htt : (t != t) = false := by simp
  have hcS : cntR cntSc S ≤ 4 * szR szSc S := cnt_scans S
  have I0 := hide (In1.start w #[.int .i64 p, .int .i64 wd, .int .i64 ht, .int .i64 rs, .slice ao n cap])
  have ca := frameCells (unhide I0).fb
  by_cases hbig : (n : Int) ≤ 1048576
  · obtain ⟨lf, hlf⟩ : ∃ lf : Nat, (1048576 : Int) - (n : Int) = (lf : Int) := ⟨1048576 - n, by omega⟩
    have HSZ : Hid ((if (n : Int) ≤ 1048576 then 1048576 - (n : Int) else -1) = (lf : Int)) := (if_pos hbig).trans hlf
    have hneg : decide ((lf : Int) < 0) = false := decide_eq_false (by omega)
    have hn : n ≤ 4194304 := by omega
    have hl1 : lf ≤ 1048576 := by omega
    clear hlf
    obtain ⟨r, HR2⟩ : ∃ r : Int, Hid ((if szR szSc S ≤ lf then (lf : Int) - szR szSc S else -1) = r) := ⟨_, rfl⟩
    by_cases hsz : szR szSc S ≤ lf
    · have hr2 : decide (r < 0) = false := decide_eq_false (by have := unhide HR2; rw [if_pos hsz] at this; omega)
      have hs : szR szSc S ≤ 1048576 := by omega
      have hk2 : decide (1 + 4 * (n : Int) + (cntR cntSc S : Int) < 0) = false := decide_eq_false (by omega)
      have hcs := sz_scan hs
      go_enter Try.func6, Try.ntmps6
      go_wp2_with fail
      generalize (w.alloc (.cells #[.int .i64 p, .int .i64 wd, .int .i64 ht, .int .i64 rs, .slice ao n cap] 42)) = wx at *
      refine (szFrame p wd ht rs ao n cap 1048576 _ wx (by omega) (by omega) (by omega) HSZ).mono ?_
      rintro e w1 ⟨rfl, g1⟩
      have I1 := hide ((unhide I0).new g1)
      clear ca g1 I0
      go_wp2_with fail
      refine (szScanSC w1 _ S lf (RdSsZ.st (unhide HSZ0) (unhide I1).grown) hl1 r HR2).mono ?_
      rintro e w2 ⟨rfl, g2⟩
      have I2 := hide ((unhide I1).new g2)
      clear g2 I1
      have ca := frameCells (unhide I2).fb
      go_wp2_with fail
      refine (toFrame p wd ht rs ao n cap C w2 ((unhide HR).grown (unhide I2).grown) hn).mono ?_
      rintro e w3 ⟨q3, rfl, o3, g3⟩
      have RF_0 := hide (own_rdC o3)
      clear ca o3
      have I3 := hide ((unhide I2).new g3)
      have hz3 := g3.size
      clear I2 g3
      go_wp2_with fail
      refine (toScanSC w3 _ S (RdSs.st _ _ _ _ (unhide HS) (unhide I3).grown) hs).mono ?_
      rintro e w4 ⟨u4, F4, rfl, o4, n4, l4, g4⟩
      obtain ⟨so4, sc4, rfl⟩ := OwG.form o4
      rw [unhide HM] at o4 ⊢
      have RS_0 := hide (OwSs.rd o4)
      clear o4 n4 l4
      have I4 := hide ((unhide I3).new g4)
      have hz4 := g4.size
      have RF_4 := hide ((unhide RF_0).grown g4)
      clear I3 g4 RF_0
      go_wp2_with fail
      refine (specScriptOk p wd ht rs _ n n C w4 (unhide RF_4) hn _ S (unhide RS_0) (fun a ha => by have := hcs a ha; omega) fb HFB t HT).mono ?_
      rintro e w5 ⟨rfl, g5⟩
      clear RF_4
      clear RS_0
      have I5 := hide ((unhide I4).new g5)
      have hz5 := g5.size
      clear I4 g5
      have ca := frameCells (unhide I5).fb
      go_wp2_with fail
      refine (toFrame p wd ht rs ao n cap C w5 ((unhide HR).grown (unhide I5).grown) hn).mono ?_
      rintro e w6 ⟨q6, rfl, o6, g6⟩
      have hq : w5.heap.size ≤ q6 ∧ q6 < w6.heap.size := o6.lt q6 rfl
      have hg6 := g6.size
      have g7 := grown_alloc g6 (.cells #[.int .i64 p, .int .i64 wd, .int .i64 ht, .int .i64 rs, .slice (some ⟨q6, 0, none⟩) n n] 26)
      have hy7 : w6.heap.size < (w6.alloc (.cells #[.int .i64 p, .int .i64 wd, .int .i64 ht, .int .i64 rs, .slice (some ⟨q6, 0, none⟩) n n] 26)).heap.size := by simp
      have X0_0 := hide (Bf.new o6 p wd ht rs)
      have hI7 := (unhide I5).size
      clear ca g6 o6
      have I7 := hide ((unhide I5).new g7)
      have hz7 := g7.size
      clear I5 g7
      go_wp2_with fail
      generalize (w6.alloc (.cells #[.int .i64 p, .int .i64 wd, .int .i64 ht, .int .i64 rs, .slice (some ⟨q6, 0, none⟩) n n] 26)) = w7 at *
      refine (toScanSC w7 _ S (RdSs.st _ _ _ _ (unhide HS) (unhide I7).grown) hs).mono ?_
      rintro e w8 ⟨u8, F8, rfl, o8, n8, l8, g8⟩
      obtain ⟨so8, sc8, rfl⟩ := OwG.form o8
      rw [unhide HM] at o8 ⊢
      have LOX1 : Hid (∀ g ∈ F8, w7.heap.size ≤ g ∧ g < w8.heap.size) := fun g e => ⟨l8 g e, OwSs.ok.lt _ _ _ _ o8 g e⟩
      have NDX1 := hide n8
      have X1_0 := hide o8
      clear o8 n8 l8
      have I8 := hide ((unhide I7).new g8)
      have hz8 := g8.size
      have X0_8 := hide ((unhide X0_0).keep g8)
      clear I7 g8 X0_0
      have cx := frameCells (unhide X0_8).box
      go_wp2_with fail
      clear cx
      refine (unhide HI p wd ht rs _ n n C _ S w8 (unhide X0_8).rd hn (OwSs.rd (unhide X1_0)) hs fb t HFB HT).mono ?_
      rintro e w9 ⟨rfl, g9⟩
      have I9 := hide ((unhide I8).new g9)
      have hz9 := g9.size
      have X0_9 := hide ((unhide X0_8).keep g9)
      have X1_9 := hide (OwSs.ok.keep (unhide X1_0) g9)
      clear I8 g9 X0_8 X1_0
      go_wp2
      refine wp_region_noPanic ?_
      have gd := grown_drew (World.grownBy.refl w9 none)
      have I10 := hide ((unhide I9).new gd)
      have hz10 := gd.size
      have X0_10 := hide ((unhide X0_9).keep gd)
      have X1_10 := hide (OwSs.ok.keep (unhide X1_9) gd)
      clear I9 gd X0_9 X1_9
      refine wp_region_tailL 20 (fun W => In1 w W #[.int .i64 p, .int .i64 wd, .int .i64 ht, .int .i64 rs, .slice ao n cap] ∧ Bf W w6.heap.size p wd ht rs q6 n _ C) [true, true, false, false, false] (by kernel_rfl) (fun _ _ _ _ _ h => h) rfl (by decide) (by kernel_rfl) ⟨(unhide I10), (unhide X0_10)⟩ ?_
      generalize w9.drew = w10 at *
      refine heldF_take (v := ?_) (Or.inl ⟨by rfl, ?_⟩) ?_
      rotate_left 1
      · intro w' hSw
        try dsimp only at hSw
        have s1 := frameCells hSw.2.box
        go_simp
        try with_reducible rfl
      simp only [Act.put, List.setIfInBounds_toArray, List.set_cons_zero, List.set_cons_succ]
      refine heldF_take (v := ?_) (Or.inl ⟨by rfl, ?_⟩) ?_
      rotate_left 1
      · intro w' hSw
        try dsimp only at hSw
        have s1 := frameCells hSw.1.fb
        go_simp
        try with_reducible rfl
      simp only [Act.put, List.setIfInBounds_toArray, List.set_cons_zero, List.set_cons_succ]
      refine heldF_skip (heldF_skip (heldF_skip (heldF_nil ?_)))
      refine tailL_skip (tailL_skip (tailL_step (fun K hK => ?_)))
      go_simp
      refine (toFrame p wd ht rs ao n cap C w10 ((unhide HR).grown (unhide I10).grown) hn).mono ?_
      rintro e w11 ⟨q11, rfl, o11, g11⟩
      have RF_0 := hide (own_rdC o11)
      clear o11
      have I11 := hide ((unhide I10).new g11)
      have hz11 := g11.size
      have X0_11 := hide ((unhide X0_10).keep g11)
      have X1_11 := hide (OwSs.ok.keep (unhide X1_10) g11)
      clear I10 g11 X0_10 X1_10
      go_simp
      refine hK.out _ _ (.inr ⟨(unhide I11), (unhide X0_11)⟩) ?_
      clear hK K
      refine tailL_step (fun K hK => ?_)
      go_simp
      refine (eqFrame p wd ht rs _ _ n n n C w11 (unhide X0_11).rd (unhide RF_0) hn).mono ?_
      rintro e w12 ⟨rfl, g12⟩
      clear RF_0
      have I12 := hide ((unhide I11).new g12)
      have hz12 := g12.size
      have X0_12 := hide ((unhide X0_11).keep g12)
      have X1_12 := hide (OwSs.ok.keep (unhide X1_11) g12)
      clear I11 g12 X0_11 X1_11
      go_simp
      refine hK.out _ _ (.inr ⟨(unhide I12), (unhide X0_12)⟩) ?_
      clear hK K
      refine tailL_step (fun K hK => ?_)
      go_simp
      refine hK.out _ _ (.inl rfl) ?_
      clear hK K
      refine tailL_nil (NoPanic.normal ?_)
      go_wp2_with fail
      refine (toScanSC w12 _ S (RdSs.st _ _ _ _ (unhide HS) (unhide I12).grown) hs).mono ?_
      rintro e w13 ⟨u13, F13, rfl, o13, n13, l13, g13⟩
      obtain ⟨so13, sc13, rfl⟩ := OwG.form o13
      rw [unhide HM] at o13 ⊢
      have OG := hide (OwSs.rd o13)
      clear o13 n13 l13
      have I13 := hide ((unhide I12).new g13)
      have hz13 := g13.size
      have X0_13 := hide ((unhide X0_12).keep g13)
      have X1_13 := hide (OwSs.ok.keep (unhide X1_12) g13)
      clear I12 g13 X0_12 X1_12
      go_wp2_with fail
      refine (eqScanSC w13 _ _ S (OwSs.rd (unhide X1_13)) (unhide OG) hs).mono ?_
      rintro e w14 ⟨rfl, g14⟩
      clear OG
      have I14 := hide ((unhide I13).new g14)
      have hz14 := g14.size
      have X0_14 := hide ((unhide X0_13).keep g14)
      have X1_14 := hide (OwSs.ok.keep (unhide X1_13) g14)
      clear I13 g14 X0_13 X1_13
      go_wp2
      go_ret
      exact ⟨rfl, grown_below (unhide I14).grown⟩
    · have hr2 : decide (r < 0) = true := decide_eq_true (by have := unhide HR2; rw [if_neg hsz] at this; omega)
      go_enter Try.func6, Try.ntmps6
      go_wp2_with fail
      generalize (w.alloc (.cells #[.int .i64 p, .int .i64 wd, .int .i64 ht, .int .i64 rs, .slice ao n cap] 42)) = wx at *
      refine (szFrame p wd ht rs ao n cap 1048576 _ wx (by omega) (by omega) (by omega) HSZ).mono ?_
      rintro e w1 ⟨rfl, g1⟩
      have I1 := hide ((unhide I0).new g1)
      clear ca g1 I0
      go_wp2_with fail
      refine (szScanSC w1 _ S lf (RdSsZ.st (unhide HSZ0) (unhide I1).grown) hl1 r HR2).mono ?_
      rintro e w2 ⟨rfl, g2⟩
      have I2 := hide ((unhide I1).new g2)
      clear g2 I1
      go_wp2
      go_ret
      exact ⟨rfl, grown_below (unhide I2).grown⟩
  · have HSZ : Hid ((if (n : Int) ≤ 1048576 then 1048576 - (n : Int) else -1) = -1) := if_neg hbig
    go_enter Try.func6, Try.ntmps6
    go_wp2_with fail
    generalize (w.alloc (.cells #[.int .i64 p, .int .i64 wd, .int .i64 ht, .int .i64 rs, .slice ao n cap] 42)) = wx at *
    refine (szFrame p wd ht rs ao n cap 1048576 _ wx (by omega) (by omega) (by omega) HSZ).mono ?_
    rintro e w1 ⟨rfl, g1⟩
    have I1 := hide ((unhide I0).new g1)
    clear ca g1 I0
    go_wp2
    go_ret
    exact ⟨rfl, grown_below (unhide I1).grown⟩

end Go.Proofs.Ytnjcmlmgjoaeeaa
