/-
  The walk of the law on OrderOf, over what OrderOf does in the program.
-/
import Derived.Test.YtoeehfjbnbbijaiGeoOrderOfSpec
import Derived.Test.YtoeehfjbnbbijaiFrameLaws
import Derived.Test.YtoeehfjbnbbijaiFrameMarks
import Derived.Test.YtoeehfjbnbbijaiIntRows
import Derived.Test.YtoeehfjbnbbijaiPlaceRows
namespace Go.Proofs.Ytoeehfjbnbbijai
open Go.RowKit

/-- What OrderOf does in the program. -/
def ImplOrder : Prop := ∀ (p wd ht rs : Int) (ao : Option Addr) (n cap : Nat) (C : Nat → Nat → Int) (w : World), RdC w ao n C → n ≤ 4194304 → ∀ (b : Bool), frameB p wd ht rs n C = b → ∀ (co : Option Addr) (m ccap : Nat) (cs : List Int), Rd .i64 w co m cs → m ≤ 4194304 →
    Calls Try.prog 31 #[.agg #[.int .i64 p, .int .i64 wd, .int .i64 ht, .int .i64 rs, .slice ao n cap], .slice co m ccap] w fun e w' => ∃ x, e = .returned x ∧ w'.ownsRow w.heap.size 83 3 x (orderG b wd ht n C cs).flatten.length (plCells (orderG b wd ht n C cs).flatten) ∧ w.grownBy w' none

theorem order_short {p wd ht rs : Int} {n : Nat} {C : Nat → Nat → Int} {cs : List Int} {b : Bool} (h : frameB p wd ht rs n C = b) : (orderG b wd ht n C cs).flatten.length ≤ 134217728 := by
  cases b with
  | false => simp [orderG]
  | true =>
    cases hc : okComps n cs with
    | false => simp [orderG, hc]
    | true =>
      have hg := geo_of h
      have e : orderG true wd ht n C cs = unitsG wd ht n C cs := by simp [orderG, hc]
      rw [e]
      have h1 := flat_len (unitsG_unit hg hc)
      have h2 := countG_bounds hg hc
      rw [unitsG_len] at h1
      have h3 : (countG wd ht n C cs).2.toNat * (countG wd ht n C cs).1.toNat ≤ 1024 * 1024 := Nat.mul_le_mul (by omega) (by omega)
      omega

set_option maxRecDepth 20000 in
set_option maxHeartbeats 6400000 in
theorem lawOrderOf (HIO : Hid ImplOrder) (p wd ht rs : Int) (ao : Option Addr) (n cap : Nat) (C : Nat → Nat → Int) (w : World) (hr : RdC w ao n C) (hm : n ≤ maxLen) (co : Option Addr) (m ccap : Nat) (cs : List Int) (hcs : Rd .i64 w co m cs) (hmm : m ≤ maxLen) :
    Calls Try.prog 8 #[.agg #[.int .i64 p, .int .i64 wd, .int .i64 ht, .int .i64 rs, .slice ao n cap], .slice co m ccap] w fun e w' => e = .returned (.bool true) ∧ Below w.heap.size w w' := by
  unfold maxLen at hm hmm
  have HR := hide hr
  have HC := hide hcs
  clear hr hcs
  obtain ⟨b, HB⟩ : ∃ b, Hid (frameB p wd ht rs n C = b) := ⟨_, rfl⟩
  have G : Hid (w.grownBy (w.alloc (.cells #[.int .i64 p, .int .i64 wd, .int .i64 ht, .int .i64 rs, .slice ao n cap] 24)) none) := grown_alloc (World.grownBy.refl _ _) _
  have HBF := hide (heap_alloc_new w (.cells #[.int .i64 p, .int .i64 wd, .int .i64 ht, .int .i64 rs, .slice ao n cap] 24))
  have hgs : w.heap.size < (w.alloc (.cells #[.int .i64 p, .int .i64 wd, .int .i64 ht, .int .i64 rs, .slice ao n cap] 24)).heap.size := by simp
  by_cases hbm : (m : Int) ≤ 1048576
  · have hbm' : ¬ (1048576 : Int) < (m : Int) := by omega
    have hm4 : m ≤ 4194304 := by omega
    by_cases hbig : (n : Int) ≤ 1048576
    · have HSZ : Hid ((if (n : Int) ≤ 1048576 then 1048576 - (n : Int) else -1) = 1048576 - (n : Int)) := if_pos hbig
      have hneg : decide ((1048576 : Int) - (n : Int) < 0) = false := decide_eq_false (by omega)
      have hn : n ≤ 4194304 := by omega
      obtain ⟨L, HL⟩ : ∃ L, Hid ((orderG b wd ht n C cs).flatten = L) := ⟨_, rfl⟩
      have hLl : L.length ≤ 134217728 := by rw [← unhide HL]; exact order_short (unhide HB)
      have HI : Hid (∀ (ao : Option Addr) (cap : Nat) (w : World), RdC w ao n C → ∀ (co : Option Addr) (ccap : Nat), Rd .i64 w co m cs → Calls Try.prog 31 #[.agg #[.int .i64 p, .int .i64 wd, .int .i64 ht, .int .i64 rs, .slice ao n cap], .slice co m ccap] w fun e w' => ∃ so sc, e = .returned (.slice so L.length sc) ∧ w'.ownsRow w.heap.size 83 3 (.slice so L.length sc) L.length (rowsK L.length 3 (compCells (plNum L))) ∧ w.grownBy w' none) := fun ao cap w hr co ccap hc => by
        refine (unhide HIO p wd ht rs ao n cap C w hr hn b (unhide HB) co m ccap cs hc hm4).mono ?_
        rintro e w' ⟨x, rfl, ho, hg⟩
        rw [unhide HL, plCells_rows] at ho
        obtain ⟨so, sc, rfl⟩ := own_form ho
        exact ⟨so, sc, rfl, ho, hg⟩
      have HSP : Hid (∀ (ao : Option Addr) (cap : Nat) (w : World), RdC w ao n C → ∀ (co : Option Addr) (ccap : Nat), Rd .i64 w co m cs → Calls Try.prog 30 #[.agg #[.int .i64 p, .int .i64 wd, .int .i64 ht, .int .i64 rs, .slice ao n cap], .slice co m ccap] w fun e w' => ∃ so sc, e = .returned (.slice so L.length sc) ∧ w'.ownsRow w.heap.size 83 3 (.slice so L.length sc) L.length (rowsK L.length 3 (compCells (plNum L))) ∧ w.grownBy w' none) := fun ao cap w hr co ccap hc => by
        refine (specOrderOf p wd ht rs ao n cap C w hr hn b HB co m ccap cs hc hm4).mono ?_
        rintro e w' ⟨x, rfl, ho, hg⟩
        rw [unhide HL, plCells_rows] at ho
        obtain ⟨so, sc, rfl⟩ := own_form ho
        exact ⟨so, sc, rfl, ho, hg⟩
      clear HL HIO HB
      obtain ⟨N, hN⟩ : ∃ N, L.length = N := ⟨_, rfl⟩
      rw [hN] at HI HSP hLl
      clear hN
      generalize plNum L = D at *
      go_enter Try.func8, Try.ntmps8
      go_wp2_with fail
      refine (szFrame p wd ht rs ao n cap 1048576 _ _ (by omega) (by omega) (by omega) HSZ).mono ?_
      generalize (w.alloc (.cells #[.int .i64 p, .int .i64 wd, .int .i64 ht, .int .i64 rs, .slice ao n cap] 24)) = wx at *
      rintro e w1 ⟨rfl, g1⟩
      have ca := frameCells ((g1.block w.heap.size hgs (by simp)).trans (unhide HBF))
      generalize (1048576 : Int) - (n : Int) = sz at hneg
      have X1 := g1
      go_wp2_with fail
      refine (toFrame p wd ht rs ao n cap C w1 ((unhide HR).grown (grown_trans (unhide G) X1)) hn).mono ?_
      rintro e w2 ⟨q1, rfl, o2, g2⟩
      have X2 := grown_trans X1 g2
      have R2 := hide (own_rdC o2)
      clear ca X1 g1 g2 o2
      go_wp2_with fail
      refine (toIntS co m ccap cs w2 ((unhide HC).grown (grown_trans (unhide G) X2)) hm4).mono ?_
      rintro e w2b ⟨rfl, i2, g2b⟩
      have X2b := grown_trans X2 g2b
      have R2b := hide ((unhide R2).grown g2b)
      have I2b := hide (own_rd i2)
      clear i2 g2b X2 R2
      go_wp2_with fail
      refine (unhide HSP _ _ w2b (unhide R2b) _ _ (unhide I2b)).mono ?_
      rintro e w3 ⟨wo, wc, rfl, oW, g3⟩
      have X3 := grown_trans X2b g3
      have ca := frameCells ((X3.block w.heap.size hgs (by simp)).trans (unhide HBF))
      have BW : Hid (∀ g, (Value.slice wo N wc).ownBlock = some g → w2b.heap.size ≤ g ∧ g < w3.heap.size) := fun g e => oW.lt g e
      have OW3 := hide oW
      have hxz := X2b.size
      clear g3 X2b R2b I2b oW
      go_wp2_with fail
      refine (toFrame p wd ht rs ao n cap C w3 ((unhide HR).grown (grown_trans (unhide G) X3)) hn).mono ?_
      rintro e w4 ⟨q2, rfl, o4, g4⟩
      have X4 := grown_trans X3 g4
      have OW4 := hide (own_grown (unhide OW3) g4)
      have BX : Hid (∀ g, (Value.slice (some ⟨q2, 0, none⟩) n n).ownBlock = some g → w3.heap.size ≤ g ∧ g < w4.heap.size) := fun g e => o4.lt g e
      have hz4 := g4.size
      have hz3 := X3.size
      clear ca g4 X3 OW3
      have HB5 := hide (heap_alloc_new w4 (.cells #[.int .i64 p, .int .i64 wd, .int .i64 ht, .int .i64 rs, .slice (some ⟨q2, 0, none⟩) n n] 30))
      have X5 : Hid (wx.grownBy (w4.alloc (.cells #[.int .i64 p, .int .i64 wd, .int .i64 ht, .int .i64 rs, .slice (some ⟨q2, 0, none⟩) n n] 30)) none) := grown_alloc X4 _
      have g5 : Hid (w4.grownBy (w4.alloc (.cells #[.int .i64 p, .int .i64 wd, .int .i64 ht, .int .i64 rs, .slice (some ⟨q2, 0, none⟩) n n] 30)) none) := grown_alloc (World.grownBy.refl _ _) _
      have hg5 : w4.heap.size < (w4.alloc (.cells #[.int .i64 p, .int .i64 wd, .int .i64 ht, .int .i64 rs, .slice (some ⟨q2, 0, none⟩) n n] 30)).heap.size := by simp
      have OX5 := hide (own_grown o4 (unhide g5))
      have OW5 := hide (own_grown (unhide OW4) (unhide g5))
      clear o4 OW4
      go_wp2_with fail
      refine (toIntS co m ccap cs _ ((unhide HC).grown (grown_trans (unhide G) (unhide X5))) hm4).mono ?_
      generalize (w4.alloc (.cells #[.int .i64 p, .int .i64 wd, .int .i64 ht, .int .i64 rs, .slice (some ⟨q2, 0, none⟩) n n] 30)) = w5 at *
      rintro e w5b ⟨rfl, i5, g5b⟩
      have X5b := grown_trans (unhide X5) g5b
      have OX5b := hide (own_grown (unhide OX5) g5b)
      have OW5b := hide (own_grown (unhide OW5) g5b)
      have OI5b := hide i5
      have HB5b := hide ((g5b.block w4.heap.size hg5 (by simp)).trans (unhide HB5))
      have hz5 := g5b.size
      have cx0 := frameCells (unhide HB5b)
      clear g5b X5 HB5 i5 OX5 OW5 g5
      have hi5 : w5.heap.size < w5b.heap.size := ((unhide OI5b).lt w5.heap.size rfl).2
      go_wp2_with fail
      refine (unhide HI _ _ w5b (own_rdC (unhide OX5b)) _ _ (own_rd (unhide OI5b))).mono ?_
      rintro e w6 ⟨yo, yc, rfl, oY, g6⟩
      have X6 := grown_trans X5b g6
      have OX6 := hide (own_grown (unhide OX5b) g6)
      have OW6 := hide (own_grown (unhide OW5b) g6)
      have OI6 := hide (own_grown (unhide OI5b) g6)
      have BI : Hid (∀ g, (Value.slice (some ⟨w5.heap.size, 0, none⟩) m m).ownBlock = some g → g = w5.heap.size) := fun g e => by simp [Value.ownBlock] at e; omega
      have BY : Hid (∀ g, (Value.slice yo N yc).ownBlock = some g → w5b.heap.size ≤ g ∧ g < w6.heap.size) := fun g e => oY.lt g e
      have OY6 := hide oY
      have HB6 := hide ((g6.block w4.heap.size (by omega) (by simp)).trans (unhide HB5b))
      have hz6 := g6.size
      clear cx0 OX5b OW5b OI5b g6 X5b HB5b oY
      go_wp2_with fail
      refine (eqPlaceS _ _ _ _ _ D w6 (own_rdP (unhide OY6)) (own_rdP (unhide OW6)) hLl).mono ?_
      rintro e w7 ⟨rfl, g7⟩
      have X7 := grown_trans X6 g7
      have OX7 := hide (own_grown (unhide OX6) g7)
      have OW7 := hide (own_grown (unhide OW6) g7)
      have OY7 := hide (own_grown (unhide OY6) g7)
      have OI7 := hide (own_grown (unhide OI6) g7)
      have hz7 := g7.size
      have HB7 := hide ((g7.block w4.heap.size (by omega) (by simp)).trans (unhide HB6))
      have ca := frameCells ((X7.block w.heap.size hgs (by simp)).trans (unhide HBF))
      have cx := frameCells (unhide HB7)
      clear OX6 OW6 OY6 OI6 g7 X6 HB6
      go_wp2
      go_region_with (first | (go_at_call 11; refine (toFrame p wd ht rs ao n cap C _ ((unhide HR).grown (grown_trans (unhide G) (grown_drew X7))) hn).mono ?_; rintro e w8 ⟨q3, rfl, o8, g8x⟩; have g8 := grown_trans (grown_drew (World.grownBy.refl w7 none)) g8x; have R8 := hide ((own_rdC (unhide OX7)).grown g8); have S8 := hide (own_rdC o8); have cx' := frameCells ((g8.block w4.heap.size (by omega) (by simp)).trans (unhide HB7)); clear o8 g8x) | (go_at_call 14; refine (eqFrame p wd ht rs _ _ n n n C _ (unhide R8) (unhide S8) hn).mono ?_; rintro e w9 ⟨rfl, g9x⟩; have g9 := grown_trans g8 g9x; clear g9x))
      all_goals
        have X9 := grown_trans X7 g9
        have OX9 := hide (own_grown (unhide OX7) g9)
        have OW9 := hide (own_grown (unhide OW7) g9)
        have OY9 := hide (own_grown (unhide OY7) g9)
        have OI9 := hide (own_grown (unhide OI7) g9)
        have HB9 := hide ((g9.block w4.heap.size (by omega) (by simp)).trans (unhide HB7))
        have hz9 := g9.size
        clear ca cx cx' g8 R8 S8 g9 X7 OX7 OW7 OY7 OI7
        go_wp2_with fail
        refine (toIntS co m ccap cs _ ((unhide HC).grown (grown_trans (unhide G) X9)) hm4).mono ?_
        rintro e wJ ⟨rfl, iJ, gJ⟩
        have JR := hide (own_rd iJ)
        have OXJ := hide (own_grown (unhide OX9) gJ)
        have OWJ := hide (own_grown (unhide OW9) gJ)
        have OYJ := hide (own_grown (unhide OY9) gJ)
        have OIJ := hide (own_grown (unhide OI9) gJ)
        have XJ := grown_trans X9 gJ
        have HBJ := hide ((gJ.block w4.heap.size (by omega) (by simp)).trans (unhide HB9))
        have hzJ := gJ.size
        clear iJ gJ OX9 OW9 OY9 OI9 X9 HB9
        go_wp2_with fail
        refine (eqIntS _ _ m m m cs _ (own_rd (unhide OIJ)) (unhide JR) hm4).mono ?_
        rintro e wK ⟨rfl, gK⟩
        have OXK := hide (own_grown (unhide OXJ) gK)
        have OWK := hide (own_grown (unhide OWJ) gK)
        have OYK := hide (own_grown (unhide OYJ) gK)
        have OIK := hide (own_grown (unhide OIJ) gK)
        have XK := grown_trans XJ gK
        have hzK := gK.size
        have cxK := frameCells ((gK.block w4.heap.size (by omega) (by simp)).trans (unhide HBJ))
        clear gK OXJ OWJ OYJ OIJ XJ HBJ JR
        go_wp2_with fail
        refine (markFrame p wd ht rs _ n _ _ C 1 wK (unhide OXK) hn (by omega) (by omega)).mono ?_
        rintro e wa ⟨rfl, _, ga⟩
        have Xa := grown_new XK ga (fun g e => by have := unhide BX g e; omega)
        have OWa := hide (own_beneath (unhide OWK) ga (fun g g' h h' => by have := unhide BW g h; have := unhide BX g' h'; omega))
        have OYa := hide (own_beneath (unhide OYK) ga (fun g g' h h' => by have := unhide BY g h; have := unhide BX g' h'; omega))
        have OIa := hide (own_beneath (unhide OIK) ga (fun g g' h h' => by have := unhide BI g h; have := unhide BX g' h'; omega))
        have hza := ga.size
        clear OXK OWK OYK OIK ga XK cxK
        obtain ⟨pk, hpk⟩ : ∃ pk, (1 : Int) + 4 * (n : Int) = pk := ⟨_, rfl⟩
        rw [hpk]
        have hpk0 : 0 ≤ pk ∧ pk ≤ 1073741824 := by omega
        clear hpk
        go_wp2_with fail
        refine (markIntS _ m m _ _ pk wa (unhide OIa) hm4 hpk0.1 hpk0.2).mono ?_
        rintro e wb ⟨rfl, _, gb⟩
        have Xb := grown_new Xa gb (fun g e => by have := unhide BI g e; omega)
        have OWb := hide (own_beneath (unhide OWa) gb (fun g g' h h' => by have := unhide BW g h; have := unhide BI g' h'; omega))
        have OYb := hide (own_beneath (unhide OYa) gb (fun g g' h h' => by have := unhide BY g h; have := unhide BI g' h'; have := (unhide OIa).lt g' h'; omega))
        have hzb := gb.size
        clear OWa OYa OIa gb Xa
        have hpm : decide (pk + (m : Int) < 0) = false := decide_eq_false (by omega)
        generalize pk + (m : Int) = pm at *
        go_wp2_with fail
        refine (eqPlaceS _ _ _ _ _ D wb (own_rdP (unhide OYb)) (own_rdP (unhide OWb)) hLl).mono ?_
        rintro e wc ⟨rfl, gc⟩
        have Xc := grown_trans Xb gc
        have OWc := hide (own_grown (unhide OWb) gc)
        have OYc := hide (own_grown (unhide OYb) gc)
        have hzc := gc.size
        clear OWb OYb gc Xb
        go_wp2_with fail
        refine (markPlaceS _ _ _ _ D 1 wc (unhide OYc) hLl (by omega) (by omega)).mono ?_
        rintro e wd1 ⟨rfl, oYd, gd⟩
        have Xd := grown_new Xc gd (fun g e => by have := unhide BY g e; omega)
        have OWd := hide (own_beneath (unhide OWc) gd (fun g g' h h' => by have := unhide BW g h; have := unhide BY g' h'; omega))
        have OYd := hide oYd
        clear OWc OYc gd Xc oYd
        go_wp2_with fail
        refine (heldPlaceS _ _ _ 1 wd1 (own_rdP (unhide OYd)) hLl (by omega) (by omega)).mono ?_
        rintro e we ⟨rfl, ge⟩
        have Xe := grown_trans Xd ge
        have OWe := hide (own_grown (unhide OWd) ge)
        have OYe := hide (own_grown (unhide OYd) ge)
        have ca := frameCells ((Xe.block w.heap.size hgs (by simp)).trans (unhide HBF))
        clear OWd OYd ge Xd
        have hq0 : decide ((1 : Int) + 3 * (N : Int) < 0) = false := decide_eq_false (by omega)
        have hq1 : ((1 : Int) + 3 * (N : Int) != 1 + 3 * (N : Int)) = false := by simp
        go_wp2_with fail
        refine (toFrame p wd ht rs ao n cap C we ((unhide HR).grown (grown_trans (unhide G) Xe)) hn).mono ?_
        rintro e wf ⟨q4, rfl, of, gf⟩
        have Xf := grown_trans Xe gf
        have OWf := hide (own_grown (unhide OWe) gf)
        have OYf := hide (own_grown (unhide OYe) gf)
        have RF := hide (own_rdC of)
        clear OWe OYe gf Xe ca of
        go_wp2_with fail
        refine (toIntS co m ccap cs _ ((unhide HC).grown (grown_trans (unhide G) Xf)) hm4).mono ?_
        rintro e wg ⟨rfl, ig, gg⟩
        have Xg := grown_trans Xf gg
        have OWg := hide (own_grown (unhide OWf) gg)
        have OYg := hide (own_grown (unhide OYf) gg)
        have RG := hide ((unhide RF).grown gg)
        have IG := hide (own_rd ig)
        clear OWf OYf gg Xf RF ig
        go_wp2_with fail
        refine (unhide HI _ _ wg (unhide RG) _ _ (unhide IG)).mono ?_
        rintro e wh ⟨zo, zc, rfl, oZ, gh⟩
        have Xh := grown_trans Xg gh
        have OWh := hide (own_grown (unhide OWg) gh)
        have OYh := hide (own_grown (unhide OYg) gh)
        have OZh := hide oZ
        clear OWg OYg gh Xg oZ RG IG
        go_wp2_with fail
        refine (eqPlaceS _ _ _ _ _ D wh (own_rdP (unhide OZh)) (own_rdP (unhide OWh)) hLl).mono ?_
        rintro e wi ⟨rfl, gi⟩
        have Xi := grown_trans Xh gi
        have OYi := hide (own_grown (unhide OYh) gi)
        clear OWh OYh OZh gi Xh
        go_wp2_with fail
        refine (heldPlaceS _ _ _ 1 wi (own_rdP (unhide OYi)) hLl (by omega) (by omega)).mono ?_
        rintro e wj ⟨rfl, gj⟩
        have Xj := grown_trans Xi gj
        go_wp2
        go_ret
        exact ⟨rfl, grown_below (grown_trans (unhide G) Xj)⟩
    · have HSZ : Hid ((if (n : Int) ≤ 1048576 then 1048576 - (n : Int) else -1) = -1) := if_neg hbig
      go_enter Try.func8, Try.ntmps8
      go_wp2_with fail
      refine (szFrame p wd ht rs ao n cap 1048576 _ _ (by omega) (by omega) (by omega) HSZ).mono ?_
      rintro e w0 ⟨rfl, g0⟩
      go_wp2
      go_ret
      exact ⟨rfl, grown_below (grown_trans (unhide G) g0)⟩
  · have hbm' : (1048576 : Int) < (m : Int) := by omega
    go_enter Try.func8, Try.ntmps8
    go_wp2
    go_ret
    exact ⟨rfl, grown_below (grown_alloc (World.grownBy.refl _ _) _)⟩

end Go.Proofs.Ytoeehfjbnbbijai
