/-
  The walk of the law on WriteFrame.
-/
import Derived.Test.YticecjodbhhcfaiFrameWrite2
import Derived.Test.YticecjodbhhcfaiFrameMarks
namespace Go.Proofs.Yticecjodbhhcfai
open Go.RowKit

theorem writeF_len (p wd ht rs : Int) (n : Nat) (C : Nat → Nat → Int) : (writeF p wd ht rs n C).length ≤ 17 := by
  unfold writeF
  split
  · rename_i h
    have := (frameB_facts h).2.1
    rw [frameBs_len]; omega
  · simp

set_option maxHeartbeats 3200000 in
theorem lawWriteFrame (p wd ht rs : Int) (ao : Option Addr) (n cap : Nat) (C : Nat → Nat → Int) (w : World) (hr : RdC w ao n C) (hm : n ≤ maxLen) :
    Calls Try.prog 3 #[.agg #[.int .i64 p, .int .i64 wd, .int .i64 ht, .int .i64 rs, .slice ao n cap]] w fun e w' => e = .returned (.bool true) ∧ Below w.heap.size w w' := by
  unfold maxLen at hm
  have HR := hide hr
  clear hr
  obtain ⟨Z, HZ⟩ : ∃ Z, Hid (writeF p wd ht rs n C = Z) := ⟨_, rfl⟩
  have hwl : Z.length ≤ 17 := by rw [← unhide HZ]; exact writeF_len _ _ _ _ _ _
  have hwl4 : Z.length ≤ 4194304 := by omega
  have G : Hid (w.grownBy (w.alloc (.cells #[.int .i64 p, .int .i64 wd, .int .i64 ht, .int .i64 rs, .slice ao n cap] 24)) none) := grown_alloc (World.grownBy.refl _ _) _
  have HBF := hide (heap_alloc_new w (.cells #[.int .i64 p, .int .i64 wd, .int .i64 ht, .int .i64 rs, .slice ao n cap] 24))
  have hgs : w.heap.size < (w.alloc (.cells #[.int .i64 p, .int .i64 wd, .int .i64 ht, .int .i64 rs, .slice ao n cap] 24)).heap.size := by simp
  by_cases hbig : (n : Int) ≤ 1048576
  · have HSZ : Hid ((if (n : Int) ≤ 1048576 then 1048576 - (n : Int) else -1) = 1048576 - (n : Int)) := if_pos hbig
    have hneg : decide ((1048576 : Int) - (n : Int) < 0) = false := decide_eq_false (by omega)
    have hn : n ≤ 4194304 := by omega
    have hpn : decide ((1 : Int) + 4 * (n : Int) < 0) = false := decide_eq_false (by omega)
    have hneg2 : decide (1 + (Z.length : Int) < 0) = false := decide_eq_false (by omega)
    go_enter Try.func3, Try.ntmps3
    go_wp2_with fail
    refine (szFrame p wd ht rs ao n cap 1048576 _ _ (by omega) (by omega) (by omega) HSZ).mono ?_
    generalize (w.alloc (.cells #[.int .i64 p, .int .i64 wd, .int .i64 ht, .int .i64 rs, .slice ao n cap] 24)) = wx at *
    rintro e w1 ⟨rfl, X1⟩
    have ca := frameCells ((X1.block w.heap.size hgs (by simp)).trans (unhide HBF))
    generalize (1048576 : Int) - (n : Int) = sz at hneg
    go_wp2_with fail
    refine (toFrame p wd ht rs ao n cap C w1 ((unhide HR).grown (grown_trans (unhide G) X1)) hn).mono ?_
    rintro e w2 ⟨q1, rfl, o2, g2⟩
    have X2 := grown_trans X1 g2
    clear ca X1 g2
    go_wp2_with fail
    refine (specWriteFrame p wd ht rs _ n n C w2 (own_rdC o2) Z HZ).mono ?_
    rintro e w3 ⟨wo, wc, rfl, oW, g3⟩
    have X3 := grown_trans X2 g3
    have ca := frameCells ((X3.block w.heap.size hgs (by simp)).trans (unhide HBF))
    have BW : Hid (∀ g, (Value.slice wo Z.length wc).ownBlock = some g → g < w3.heap.size) := fun g e => (oW.lt g e).2
    have OW := hide oW
    have hz3 := X3.size
    clear o2 g3 X2 oW
    go_wp2_with fail
    refine (toFrame p wd ht rs ao n cap C w3 ((unhide HR).grown (grown_trans (unhide G) X3)) hn).mono ?_
    rintro e w4 ⟨q2, rfl, o4, g4⟩
    have X4 := grown_trans X3 g4
    have OW4 := hide (own_grown (unhide OW) g4)
    have BX : Hid (∀ g, (Value.slice (some ⟨q2, 0, none⟩) n n).ownBlock = some g → w3.heap.size ≤ g ∧ g < w4.heap.size) := fun g e => o4.lt g e
    have hz4 := g4.size
    clear ca g4 X3 OW
    have HB5 := hide (heap_alloc_new w4 (.cells #[.int .i64 p, .int .i64 wd, .int .i64 ht, .int .i64 rs, .slice (some ⟨q2, 0, none⟩) n n] 30))
    have X5 : Hid (wx.grownBy (w4.alloc (.cells #[.int .i64 p, .int .i64 wd, .int .i64 ht, .int .i64 rs, .slice (some ⟨q2, 0, none⟩) n n] 30)) none) := grown_alloc X4 _
    have g5 : Hid (w4.grownBy (w4.alloc (.cells #[.int .i64 p, .int .i64 wd, .int .i64 ht, .int .i64 rs, .slice (some ⟨q2, 0, none⟩) n n] 30)) none) := grown_alloc (World.grownBy.refl _ _) _
    have hg5 : w4.heap.size < (w4.alloc (.cells #[.int .i64 p, .int .i64 wd, .int .i64 ht, .int .i64 rs, .slice (some ⟨q2, 0, none⟩) n n] 30)).heap.size := by simp
    have OX5 := hide (own_grown o4 (unhide g5))
    have OW5 := hide (own_grown (unhide OW4) (unhide g5))
    clear o4 OW4
    go_wp2_with fail
    refine (implWriteFrame p wd ht rs _ n n C _ (own_rdC (unhide OX5)) hn Z HZ).mono ?_
    generalize (w4.alloc (.cells #[.int .i64 p, .int .i64 wd, .int .i64 ht, .int .i64 rs, .slice (some ⟨q2, 0, none⟩) n n] 30)) = w5 at *
    rintro e w6 ⟨yo, yc, rfl, oY, g6⟩
    have X6 := grown_trans (unhide X5) g6
    have OX6 := hide (own_grown (unhide OX5) g6)
    have OW6 := hide (own_grown (unhide OW5) g6)
    have OY6 := hide oY
    have BY : Hid (∀ g, (Value.slice yo Z.length yc).ownBlock = some g → w5.heap.size ≤ g ∧ g < w6.heap.size) := fun g e => oY.lt g e
    have HB6 := hide ((g6.block w4.heap.size hg5 (by simp)).trans (unhide HB5))
    have hz6 := g6.size
    clear OX5 OW5 g6 X5 g5 HB5 oY
    go_wp2_with fail
    refine (eqByteS _ _ _ _ _ Z w6 (own_rd (unhide OY6)) (own_rd (unhide OW6)) hwl4).mono ?_
    rintro e w7 ⟨rfl, g7⟩
    have X7 := grown_trans X6 g7
    have OX7 := hide (own_grown (unhide OX6) g7)
    have OW7 := hide (own_grown (unhide OW6) g7)
    have OY7 := hide (own_grown (unhide OY6) g7)
    have hz7 := g7.size
    have HB7 := hide ((g7.block w4.heap.size (by omega) (by simp)).trans (unhide HB6))
    have ca := frameCells ((X7.block w.heap.size hgs (by simp)).trans (unhide HBF))
    have cx := frameCells (unhide HB7)
    clear OX6 OW6 OY6 g7 X6 HB6
    go_wp2
    go_region_with (first | (go_at_call 11; refine (toFrame p wd ht rs ao n cap C _ ((unhide HR).grown (grown_trans (unhide G) (grown_drew X7))) hn).mono ?_; rintro e w8 ⟨q3, rfl, o8, g8x⟩; have g8 := grown_trans (grown_drew (World.grownBy.refl w7 none)) g8x; have R8 := hide ((own_rdC (unhide OX7)).grown g8); have S8 := hide (own_rdC o8); have cx' := frameCells ((g8.block w4.heap.size (by omega) (by simp)).trans (unhide HB7)); clear o8 g8x) | (go_at_call 14; refine (eqFrame p wd ht rs _ _ n n n C _ (unhide R8) (unhide S8) hn).mono ?_; rintro e w9 ⟨rfl, g9x⟩; have g9 := grown_trans g8 g9x; clear g9x))
    all_goals
      have X9 := grown_trans X7 g9
      have OX9 := hide (own_grown (unhide OX7) g9)
      have OW9 := hide (own_grown (unhide OW7) g9)
      have OY9 := hide (own_grown (unhide OY7) g9)
      have cx9 := frameCells ((g9.block w4.heap.size (by omega) (by simp)).trans (unhide HB7))
      have hz9 := g9.size
      clear ca cx cx' g8 R8 S8 g9 X7 OX7 OW7 OY7
      go_wp2_with fail
      refine (markFrame p wd ht rs _ n _ _ C 1 w9 (unhide OX9) hn (by omega) (by omega)).mono ?_
      rintro e wa ⟨rfl, _, ga⟩
      have Xa := grown_new X9 ga (fun g e => by have := unhide BX g e; omega)
      have OWa := hide (own_beneath (unhide OW9) ga (fun g g' h h' => by have := unhide BW g h; have := unhide BX g' h'; omega))
      have OYa := hide (own_beneath (unhide OY9) ga (fun g g' h h' => by have := unhide BY g h; have := unhide BX g' h'; omega))
      have hza := ga.size
      clear OX9 OW9 OY9 ga X9 cx9
      generalize (1 : Int) + 4 * (n : Int) = pk at *
      go_wp2_with fail
      refine (eqByteS _ _ _ _ _ Z wa (own_rd (unhide OYa)) (own_rd (unhide OWa)) hwl4).mono ?_
      rintro e wb ⟨rfl, gb⟩
      have Xb := grown_trans Xa gb
      have OWb := hide (own_grown (unhide OWa) gb)
      have OYb := hide (own_grown (unhide OYa) gb)
      have hzb := gb.size
      clear OWa OYa gb Xa
      go_wp2_with fail
      refine (markByteS _ _ _ _ _ 1 wb (unhide OYb) hwl4 (by omega) (by omega)).mono ?_
      rintro e wc1 ⟨rfl, oYc, gc⟩
      have Xc := grown_new Xb gc (fun g e => by have := unhide BY g e; omega)
      have OWc := hide (own_beneath (unhide OWb) gc (fun g g' h h' => by have := unhide BW g h; have := unhide BY g' h'; omega))
      have OYc := hide oYc
      clear OWb OYb gc Xb oYc
      go_wp2_with fail
      refine (heldByteS _ _ _ 1 wc1 (own_rd (unhide OYc)) hwl4 (by omega) (by omega)).mono ?_
      rintro e wd1 ⟨rfl, gd⟩
      have Xd := grown_trans Xc gd
      have OWd := hide (own_grown (unhide OWc) gd)
      have OYd := hide (own_grown (unhide OYc) gd)
      have ca := frameCells ((Xd.block w.heap.size hgs (by simp)).trans (unhide HBF))
      clear OWc OYc gd Xc
      go_wp2_with fail
      refine (toFrame p wd ht rs ao n cap C wd1 ((unhide HR).grown (grown_trans (unhide G) Xd)) hn).mono ?_
      rintro e we ⟨q4, rfl, oe, ge⟩
      have Xe := grown_trans Xd ge
      have OWe := hide (own_grown (unhide OWd) ge)
      have OYe := hide (own_grown (unhide OYd) ge)
      clear OWd OYd ge Xd ca
      go_wp2_with fail
      refine (implWriteFrame p wd ht rs _ n n C _ (own_rdC oe) hn Z HZ).mono ?_
      rintro e wf ⟨zo, zc, rfl, oZ, gf⟩
      have Xf := grown_trans Xe gf
      have OWf := hide (own_grown (unhide OWe) gf)
      have OYf := hide (own_grown (unhide OYe) gf)
      have OZf := hide oZ
      clear OWe OYe gf Xe oZ oe
      go_wp2_with fail
      refine (eqByteS _ _ _ _ _ Z wf (own_rd (unhide OZf)) (own_rd (unhide OWf)) hwl4).mono ?_
      rintro e wg ⟨rfl, gg⟩
      have Xg := grown_trans Xf gg
      have OYg := hide (own_grown (unhide OYf) gg)
      clear OWf OYf OZf gg Xf
      go_wp2_with fail
      refine (heldByteS _ _ _ 1 wg (own_rd (unhide OYg)) hwl4 (by omega) (by omega)).mono ?_
      rintro e wh ⟨rfl, gh⟩
      have Xh := grown_trans Xg gh
      go_wp2
      go_ret
      exact ⟨rfl, grown_below (grown_trans (unhide G) Xh)⟩
  · have HSZ : Hid ((if (n : Int) ≤ 1048576 then 1048576 - (n : Int) else -1) = -1) := if_neg hbig
    go_enter Try.func3, Try.ntmps3
    go_wp2_with fail
    refine (szFrame p wd ht rs ao n cap 1048576 _ _ (by omega) (by omega) (by omega) HSZ).mono ?_
    rintro e w0 ⟨rfl, g0⟩
    go_wp2
    go_ret
    exact ⟨rfl, grown_below (grown_trans (unhide G) g0)⟩

end Go.Proofs.Yticecjodbhhcfai
