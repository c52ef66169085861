/-
  The walk of the law on UnitsOf.
-/
import Derived.Test.YtdopiekdoaimkaiGeoUnitsSpec
import Derived.Test.YtdopiekdoaimkaiIntRows
import Derived.Test.YtdopiekdoaimkaiFrameLaws
namespace Go.Proofs.Ytdopiekdoaimkai
open Go.RowKit

set_option maxHeartbeats 1600000 in
theorem lawUnitsOf (p wd ht rs : Int) (ao : Option Addr) (n cap : Nat) (C : Nat → Nat → Int) (w : World) (hr : RdC w ao n C) (hm : n ≤ maxLen) (co : Option Addr) (m ccap : Nat) (cs : List Int) (hcs : Rd .i64 w co m cs) (hmm : m ≤ maxLen) :
    Calls Try.prog 7 #[.agg #[.int .i64 p, .int .i64 wd, .int .i64 ht, .int .i64 rs, .slice ao n cap], .slice co m ccap] w fun e w' => e = .returned (.bool true) ∧ Below w.heap.size w w' := by
  unfold maxLen at hm hmm
  have HR := hide hr
  have HC := hide hcs
  clear hr hcs
  obtain ⟨b, HB⟩ : ∃ b, Hid (frameB p wd ht rs n C = b) := ⟨_, rfl⟩
  by_cases hbm : (m : Int) ≤ 1048576
  · have hbm' : ¬ (1048576 : Int) < (m : Int) := by omega
    have hm4 : m ≤ 4194304 := by omega
    have G : Hid (w.grownBy (w.alloc (.cells #[.int .i64 p, .int .i64 wd, .int .i64 ht, .int .i64 rs, .slice ao n cap] 24)) none) := grown_alloc (World.grownBy.refl _ _) _
    have HBF := hide (heap_alloc_new w (.cells #[.int .i64 p, .int .i64 wd, .int .i64 ht, .int .i64 rs, .slice ao n cap] 24))
    have hgs : w.heap.size < (w.alloc (.cells #[.int .i64 p, .int .i64 wd, .int .i64 ht, .int .i64 rs, .slice ao n cap] 24)).heap.size := by simp
    by_cases hbig : (n : Int) ≤ 1048576
    · have HSZ : Hid ((if (n : Int) ≤ 1048576 then 1048576 - (n : Int) else -1) = 1048576 - (n : Int)) := if_pos hbig
      have hneg : decide ((1048576 : Int) - (n : Int) < 0) = false := decide_eq_false (by omega)
      have hn : n ≤ 4194304 := by omega
      obtain ⟨q, HQ⟩ : ∃ q : Int, Hid (((orderG b wd ht n C cs).length : Int) = q) := ⟨_, rfl⟩
      have hne : (q != q) = false := by simp
      go_enter Try.func7, Try.ntmps7
      go_wp2_with fail
      refine (szFrame p wd ht rs ao n cap 1048576 _ _ (by omega) (by omega) (by omega) HSZ).mono ?_
      generalize (w.alloc (.cells #[.int .i64 p, .int .i64 wd, .int .i64 ht, .int .i64 rs, .slice ao n cap] 24)) = wx at *
      rintro e w1 ⟨rfl, g1⟩
      have ca := frameCells ((g1.block w.heap.size hgs (by simp)).trans (unhide HBF))
      generalize (1048576 : Int) - (n : Int) = sz at hneg
      have X1 := g1
      go_wp2_with fail
      refine (toFrame p wd ht rs ao n cap C w1 ((unhide HR).grown (grown_trans (unhide G) X1)) hn).mono ?_
      rintro e w2 ⟨q1, rfl, o2, g2⟩
      have X2 := grown_trans X1 g2
      have R2 := hide (own_rdC o2)
      clear ca X1 g1 g2 o2
      go_wp2_with fail
      refine (toIntS co m ccap cs w2 ((unhide HC).grown (grown_trans (unhide G) X2)) hm4).mono ?_
      rintro e w2b ⟨rfl, i2, g2b⟩
      have X2b := grown_trans X2 g2b
      have R2b := hide ((unhide R2).grown g2b)
      have I2b := hide (own_rd i2)
      clear i2 g2b X2 R2
      go_wp2_with fail
      refine (specUnitsOf p wd ht rs _ n n C w2b (unhide R2b) hn b HB _ m m cs (unhide I2b) hm4).mono ?_
      rw [unhide HQ]
      rintro e w3 ⟨rfl, g3⟩
      have X3 := grown_trans X2b g3
      have ca := frameCells ((X3.block w.heap.size hgs (by simp)).trans (unhide HBF))
      clear g3 X2b R2b I2b
      go_wp2_with fail
      refine (toFrame p wd ht rs ao n cap C w3 ((unhide HR).grown (grown_trans (unhide G) X3)) hn).mono ?_
      rintro e w4 ⟨q2, rfl, o4, g4⟩
      have X4 := grown_trans X3 g4
      clear ca g4 X3
      have HB5 := hide (heap_alloc_new w4 (.cells #[.int .i64 p, .int .i64 wd, .int .i64 ht, .int .i64 rs, .slice (some ⟨q2, 0, none⟩) n n] 30))
      have X5 : Hid (wx.grownBy (w4.alloc (.cells #[.int .i64 p, .int .i64 wd, .int .i64 ht, .int .i64 rs, .slice (some ⟨q2, 0, none⟩) n n] 30)) none) := grown_alloc X4 _
      have g5 : Hid (w4.grownBy (w4.alloc (.cells #[.int .i64 p, .int .i64 wd, .int .i64 ht, .int .i64 rs, .slice (some ⟨q2, 0, none⟩) n n] 30)) none) := grown_alloc (World.grownBy.refl _ _) _
      have hg5 : w4.heap.size < (w4.alloc (.cells #[.int .i64 p, .int .i64 wd, .int .i64 ht, .int .i64 rs, .slice (some ⟨q2, 0, none⟩) n n] 30)).heap.size := by simp
      have R4 := hide ((own_rdC o4).grown (unhide g5))
      clear o4
      go_wp2_with fail
      refine (toIntS co m ccap cs _ ((unhide HC).grown (grown_trans (unhide G) (unhide X5))) hm4).mono ?_
      generalize (w4.alloc (.cells #[.int .i64 p, .int .i64 wd, .int .i64 ht, .int .i64 rs, .slice (some ⟨q2, 0, none⟩) n n] 30)) = w5 at *
      rintro e w5b ⟨rfl, i5, g5b⟩
      have X5b := grown_trans (unhide X5) g5b
      have R5b := hide ((unhide R4).grown g5b)
      have I5b := hide (own_rd i5)
      have HB5b := hide ((g5b.block w4.heap.size hg5 (by simp)).trans (unhide HB5))
      have hg5b : w4.heap.size < w5b.heap.size := by have := g5b.size; omega
      have cx0 := frameCells (unhide HB5b)
      clear R4 g5b X5 HB5 i5
      go_wp2_with fail
      refine (implUnitsOf p wd ht rs _ n n C _ (unhide R5b) hn b HB _ m m cs (unhide I5b) hm4).mono ?_
      rw [unhide HQ]
      rintro e w6 ⟨rfl, g6⟩
      have X6 := grown_trans X5b g6
      have R6 := hide ((unhide R5b).grown g6)
      have I6 := hide ((unhide I5b).grown g6)
      have HB6 := hide ((g6.block w4.heap.size hg5b (by simp)).trans (unhide HB5b))
      have hg6 : w4.heap.size < w6.heap.size := by have := g6.size; omega
      clear cx0 R5b g6 X5b HB5b I5b
      have ca := frameCells ((X6.block w.heap.size hgs (by simp)).trans (unhide HBF))
      have cx := frameCells (unhide HB6)
      go_wp2
      go_region_with (first | (go_at_call 11; refine (toFrame p wd ht rs ao n cap C _ ((unhide HR).grown (grown_trans (unhide G) (grown_drew X6))) hn).mono ?_; rintro e w7 ⟨q3, rfl, o7, g7x⟩; have g7 := grown_trans (grown_drew (World.grownBy.refl w6 none)) g7x; have X7 := grown_trans X6 g7; have R7 := hide ((unhide R6).grown g7); have X67 := g7; have S7 := hide (own_rdC o7); have cx' := frameCells ((g7.block w4.heap.size hg6 (by simp)).trans (unhide HB6)); clear o7 g7 g7x) | (go_at_call 14; refine (eqFrame p wd ht rs _ _ n n n C _ (unhide R7) (unhide S7) hn).mono ?_; rintro e w8 ⟨rfl, g8⟩; have X8 := grown_trans X7 g8; have X68 := grown_trans X67 g8; clear g8))
      all_goals
        have I8 := hide ((unhide I6).grown X68)
        go_wp2_with fail
        refine (toIntS co m ccap cs _ ((unhide HC).grown (grown_trans (unhide G) X8)) hm4).mono ?_
        rintro e w9 ⟨rfl, i9, g9⟩
        have X9 := grown_trans X8 g9
        have I9 := hide ((unhide I8).grown g9)
        have J9 := hide (own_rd i9)
        clear i9 g9
        go_wp2_with fail
        refine (eqIntS _ _ m m m cs _ (unhide I9) (unhide J9) hm4).mono ?_
        rintro e wA ⟨rfl, gA⟩
        have XA := grown_trans X9 gA
        go_wp2
        go_ret
        exact ⟨rfl, grown_below (grown_trans (unhide G) XA)⟩
    · have HSZ : Hid ((if (n : Int) ≤ 1048576 then 1048576 - (n : Int) else -1) = -1) := if_neg hbig
      go_enter Try.func7, Try.ntmps7
      go_wp2_with fail
      refine (szFrame p wd ht rs ao n cap 1048576 _ _ (by omega) (by omega) (by omega) HSZ).mono ?_
      rintro e w0 ⟨rfl, g0⟩
      go_wp2
      go_ret
      exact ⟨rfl, grown_below (grown_trans (unhide G) g0)⟩
  · have hbm' : (1048576 : Int) < (m : Int) := by omega
    go_enter Try.func7, Try.ntmps7
    go_wp2
    go_ret
    exact ⟨rfl, grown_below (grown_alloc (World.grownBy.refl _ _) _)⟩

end Go.Proofs.Ytdopiekdoaimkai
