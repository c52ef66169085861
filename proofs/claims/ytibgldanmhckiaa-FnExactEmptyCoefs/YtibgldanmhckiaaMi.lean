/-
  FrameMarks, CoefBox, LawEmptyCoefs.
-/
import Derived.Test.YtibgldanmhckiaaMh

namespace Go.Proofs.Ytibgldanmhckiaa
open Go.RowKit

/-- Components that are marked all over, from k0 on. -/
def markedC (k0 : Int) : Nat → Nat → Int := fun i j => k0 + 4 * (i : Int) + (j : Int)
theorem markPart_set (C : Nat → Nat → Int) (k0 : Int) (n k : Nat) (q : Int) (hq : k0 + 4 * (k : Int) = q) :
    ((((rowsK n 4 (compCells (fun i j => if i < k then markedC k0 i j else C i j))).set (k * 4) (.int .i64 q)).set (k * 4 + 1) (.int .i64 (q + 1))).set (k * 4 + 2) (.int .i64 (q + 1 + 1))).set (k * 4 + 3) (.int .i64 (q + 1 + 1 + 1)) = rowsK n 4 (compCells (fun i j => if i < k + 1 then markedC k0 i j else C i j)) := by
  have e0 := rowsK_set n 4 (compCells (fun i j => if i < k then markedC k0 i j else C i j)) k 0 (.int .i64 q) (by omega)
  rw [Nat.add_zero] at e0
  rw [e0, rowsK_set _ _ _ k 1 _ (by omega), rowsK_set _ _ _ k 2 _ (by omega), rowsK_set _ _ _ k 3 _ (by omega)]
  apply rowsK_congr
  intro i j _ hj
  have hj4 : j = 0 ∨ j = 1 ∨ j = 2 ∨ j = 3 := by omega
  by_cases e1 : i = k
  · subst e1
    rcases hj4 with rfl | rfl | rfl | rfl <;> simp [compCells, markedC, hq] <;> omega
  · by_cases e2 : i < k
    · rcases hj4 with rfl | rfl | rfl | rfl <;> simp [compCells, e1, e2, show i < k + 1 by omega]
    · rcases hj4 with rfl | rfl | rfl | rfl <;> simp [compCells, e1, e2, show ¬ i < k + 1 by omega]

set_option maxHeartbeats 1600000 in
theorem markCompS (ao : Option Addr) (n cap base : Nat) (C : Nat → Nat → Int) (k0 : Int) (w : World) (ho : w.ownsRow base 70 4 (.slice ao n cap) n (rowsK n 4 (compCells C))) (hn : n ≤ 4194304) (h0 : 0 ≤ k0) (h1 : k0 ≤ 1073741824) :
    Calls Try.prog 63 #[.slice ao n cap, .int .i64 k0] w fun e w' => e = .returned (.int .i64 (k0 + 4 * n)) ∧
      w'.ownsRow base 70 4 (.slice ao n cap) n (rowsK n 4 (compCells (markedC k0))) ∧ w.grownBy w' (Value.slice ao n cap).ownBlock := by
  have ho' : w.ownsRow base 70 4 (.slice ao n cap) n (rowsK n 4 (compCells (fun i j => if i < 0 then markedC k0 i j else C i j))) := by
    have e : rowsK n 4 (compCells (fun i j => if i < 0 then markedC k0 i j else C i j)) = rowsK n 4 (compCells C) := rowsK_congr (fun i j _ _ => by simp [compCells])
    rw [e]; exact ho
  clear ho
  have HO := hide ho'
  clear ho'
  go_enter Try.func63, Try.ntmps63
  go_wp2
  go_loopw [1, 5] (fun c i wr => ∃ k : Nat, k ≤ n ∧ i = .int .i64 k ∧ c = .int .i64 (k0 + 4 * k) ∧ wr.ownsRow base 70 4 (.slice ao n cap) n (rowsK n 4 (compCells (fun i j => if i < k then markedC k0 i j else C i j))) ∧ w.grownBy wr (Value.slice ao n cap).ownBlock) (fun _ i _ => n - (intOf i).toNat)
  case atStart => exact ⟨0, Nat.zero_le _, rfl, by go_num, unhide HO, World.grownBy.refl _ _⟩
  case round =>
    obtain ⟨k, hk, rfl, rfl, hok, hgk⟩ := hrel
    by_cases hlt : k < n
    · obtain ⟨g, rfl, _, _⟩ := own_at hok (by omega)
      obtain ⟨q, hq⟩ : ∃ q, k0 + 4 * (k : Int) = q := ⟨_, rfl⟩
      have HSET := hide (markPart_set C k0 n k q hq)
      have hqb : 0 ≤ q ∧ q ≤ 2000000000 := by omega
      have HQ := hide hq
      rw [hq]
      clear hq
      have f0 := hok.frozenAt (k * 4)
      have f1 := hok.frozenAt (k * 4 + 1)
      have f2 := hok.frozenAt (k * 4 + 2)
      have f3 := hok.frozenAt (k * 4 + 3)
      have hold : ∀ j, j < n * 4 → ∃ u, wr.cell? ⟨g, j, none⟩ = some u := fun j hj => by rw [hok.cellAt j hj]; exact ⟨_, List.getElem?_eq_getElem (by rw [hok.1]; omega)⟩
      obtain ⟨v0, hv0⟩ := hold (k * 4) (by omega)
      obtain ⟨v1, hv1⟩ := hold (k * 4 + 1) (by omega)
      obtain ⟨v2, hv2⟩ := hold (k * 4 + 2) (by omega)
      obtain ⟨v3, hv3⟩ := hold (k * 4 + 3) (by omega)
      have s0 := hok.stored (k * 4) (.int .i64 q)
      have s1 := s0.1.stored (k * 4 + 1) (.int .i64 (q + 1))
      have s2 := s1.1.stored (k * 4 + 2) (.int .i64 (q + 1 + 1))
      have s3 := s2.1.stored (k * 4 + 3) (.int .i64 (q + 1 + 1 + 1))
      have HG := hide (grown_trans hgk (grown_trans (grown_trans (grown_trans s0.2 s1.2) s2.2) s3.2))
      have HS := hide s3.1
      rw [unhide HSET] at HS
      clear s0 s1 s2 s3 hok hgk hold HSET
      go_wp2
      go_roundw
      case rel => exact ⟨k + 1, by omega, by go_num, by have := unhide HQ; congr 1; omega, unhide HS, unhide HG⟩
      case measure => simp [intOf]; omega
    · have hkn : k = n := by omega
      subst hkn
      go_wp2
      go_ret
      refine ⟨rfl, ?_, hgk⟩
      have e : rowsK k 4 (compCells (markedC k0)) = rowsK k 4 (compCells (fun i j => if i < k then markedC k0 i j else C i j)) := rowsK_congr (fun i j hi' _ => by simp [compCells, hi'])
      rw [e]; exact hok

set_option maxHeartbeats 1600000 in
theorem markFrame (p wd ht rs : Int) (ao : Option Addr) (n cap base : Nat) (C : Nat → Nat → Int) (k0 : Int) (w : World) (ho : w.ownsRow base 70 4 (.slice ao n cap) n (rowsK n 4 (compCells C))) (hn : n ≤ 4194304) (h0 : 0 ≤ k0) (h1 : k0 ≤ 1073741824) :
    Calls Try.prog 24 #[.agg #[.int .i64 p, .int .i64 wd, .int .i64 ht, .int .i64 rs, .slice ao n cap], .int .i64 k0] w fun e w' => e = .returned (.int .i64 (k0 + 4 * n)) ∧
      w'.ownsRow base 70 4 (.slice ao n cap) n (rowsK n 4 (compCells (markedC k0))) ∧ w.grownBy w' (Value.slice ao n cap).ownBlock := by
  have HO := hide (own_grown ho (grown_alloc (World.grownBy.refl w none) (.cells #[.int .i64 p, .int .i64 wd, .int .i64 ht, .int .i64 rs, .slice ao n cap] 26)))
  have G : Hid (w.grownBy (w.alloc (.cells #[.int .i64 p, .int .i64 wd, .int .i64 ht, .int .i64 rs, .slice ao n cap] 26)) (Value.slice ao n cap).ownBlock) := grown_any (grown_alloc (World.grownBy.refl _ _) _)
  clear ho
  go_enter Try.func24, Try.ntmps24
  go_wp2_with fail
  refine (markCompS ao n cap base C k0 _ (unhide HO) hn h0 h1).mono ?_
  rintro e w1 ⟨rfl, o1, g1⟩
  have O1 := hide o1
  have G1 := hide (grown_trans (unhide G) g1)
  clear o1 g1
  go_wp2
  go_ret
  exact ⟨rfl, unhide O1, unhide G1⟩

end Go.Proofs.Ytibgldanmhckiaa

namespace Go.Proofs.Ytibgldanmhckiaa
open Go.RowKit

/-- Coefficients that are owned, in a box. -/
structure Bc (W : World) (b : Nat) (v : Value) (X : List (List (List Int))) (F : List Nat) : Prop where
  box : W.heap[b]? = some (.cells #[v] 29 (0, 0))
  own : OwCo W (.agg #[v]) X F
theorem Bc.lt {W : World} {b : Nat} {v : Value} {X : List (List (List Int))} {F : List Nat} (h : Bc W b v X F) : b < W.heap.size := (Array.getElem?_eq_some_iff.1 h.box).1
theorem Bc.wr {W W' : World} {b : Nat} {v : Value} {X : List (List (List Int))} {F G : List Nat} (h : Bc W b v X F) (g : Wr G W W') (hb : b ∉ G) (hd : ∀ x ∈ F, x ∉ G) : Bc W' b v X F := ⟨(g.block b h.lt hb).trans h.box, h.own.wr g hd⟩
theorem Bc.keep {W W' : World} {b : Nat} {v : Value} {X : List (List (List Int))} {F : List Nat} (h : Bc W b v X F) (g : W.grownBy W' none) : Bc W' b v X F := ⟨(g.block b h.lt (by simp)).trans h.box, h.own.keep g⟩
theorem Bc.cell {W : World} {b : Nat} {v : Value} {X : List (List (List Int))} {F : List Nat} (h : Bc W b v X F) : W.cell? ⟨b, 0, none⟩ = some v := by rw [cell_of_row W b 0 _ _ (0, 0) h.box]; rfl
theorem Bc.new {W : World} {v : Value} {X : List (List (List Int))} {F : List Nat} (h : OwCo W (.agg #[v]) X F) : Bc (W.alloc (.cells #[v] 29)) W.heap.size v X F := ⟨heap_alloc_new W _, h.keep (World.grownBy_alloc _ _ _)⟩
theorem Bc.form {W : World} {v : Value} {X : List (List (List Int))} {F : List Nat} (h : OwCo W v X F) : ∃ so sc, v = .agg #[.slice so X.length sc] := by
  obtain ⟨u, rfl, h⟩ := h
  obtain ⟨so, sc, rfl⟩ := h.form
  exact ⟨so, sc, rfl⟩

/-- A frame that is owned, in a box. -/
structure Bf (W : World) (b : Nat) (p wd ht rs : Int) (q n base : Nat) (C : Nat → Nat → Int) : Prop where
  box : W.heap[b]? = some (.cells #[.int .i64 p, .int .i64 wd, .int .i64 ht, .int .i64 rs, .slice (some ⟨q, 0, none⟩) n n] 26 (0, 0))
  own : W.ownsRow base 70 4 (.slice (some ⟨q, 0, none⟩) n n) n (rowsK n 4 (compCells C))
section
variable {W W' : World} {b q n base : Nat} {p wd ht rs : Int} {C : Nat → Nat → Int}
theorem Bf.lt (h : Bf W b p wd ht rs q n base C) : b < W.heap.size := (Array.getElem?_eq_some_iff.1 h.box).1
theorem Bf.keep (h : Bf W b p wd ht rs q n base C) (g : W.grownBy W' none) : Bf W' b p wd ht rs q n base C := ⟨(g.block b h.lt (by simp)).trans h.box, own_grown h.own g⟩
theorem Bf.new (h : W.ownsRow base 70 4 (.slice (some ⟨q, 0, none⟩) n n) n (rowsK n 4 (compCells C))) (p wd ht rs : Int) : Bf (W.alloc (.cells #[.int .i64 p, .int .i64 wd, .int .i64 ht, .int .i64 rs, .slice (some ⟨q, 0, none⟩) n n] 26)) W.heap.size p wd ht rs q n base C :=
  ⟨heap_alloc_new W _, own_grown h (World.grownBy_alloc _ _ _)⟩
theorem Bf.rd (h : Bf W b p wd ht rs q n base C) : RdC W (some ⟨q, 0, none⟩) n C := own_rdC h.own
end

end Go.Proofs.Ytibgldanmhckiaa

namespace Go.Proofs.Ytibgldanmhckiaa
open Go.RowKit

set_option maxHeartbeats 3200000 in
theorem lawEmptyCoefs (HI : Hid ImplEmpty) (p wd ht rs : Int) (ao : Option Addr) (n cap : Nat) (C : Nat → Nat → Int) (w : World) (hr : RdC w ao n C) (hm : n ≤ maxLen) :
    Calls Try.prog 4 #[.agg #[.int .i64 p, .int .i64 wd, .int .i64 ht, .int .i64 rs, .slice ao n cap]] w fun e w' => e = .returned (.bool true) ∧ Below w.heap.size w w' := by
  unfold maxLen at hm
  have HR := hide hr
  clear hr
  obtain ⟨fb, HFB⟩ : ∃ fb, Hid (frameB p wd ht rs n C = fb) := ⟨_, rfl⟩
  obtain ⟨Z, HZ⟩ : ∃ Z, Hid (emptyF fb wd ht n C = Z) := ⟨_, rfl⟩
  have hwl : szCo Z ≤ 283144 := by rw [← unhide HZ]; exact shape_sz (shape_empty (unhide HFB))
  have hwl4 : szCo Z ≤ 1048576 := by omega
  have hcz := cnt_sz Z
  obtain ⟨zl, HZL⟩ : ∃ zl, Hid (Z.length = zl) := ⟨_, rfl⟩
  have G : Hid (w.grownBy (w.alloc (.cells #[.int .i64 p, .int .i64 wd, .int .i64 ht, .int .i64 rs, .slice ao n cap] 46)) none) := grown_alloc (World.grownBy.refl _ _) _
  have HBF := hide (heap_alloc_new w (.cells #[.int .i64 p, .int .i64 wd, .int .i64 ht, .int .i64 rs, .slice ao n cap] 46))
  have hgs : w.heap.size < (w.alloc (.cells #[.int .i64 p, .int .i64 wd, .int .i64 ht, .int .i64 rs, .slice ao n cap] 46)).heap.size := by simp
  by_cases hbig : (n : Int) ≤ 1048576
  · have HSZ : Hid ((if (n : Int) ≤ 1048576 then 1048576 - (n : Int) else -1) = 1048576 - (n : Int)) := if_pos hbig
    have hneg : decide ((1048576 : Int) - (n : Int) < 0) = false := decide_eq_false (by omega)
    have hn : n ≤ 4194304 := by omega
    have hpn : decide ((1 : Int) + 4 * (n : Int) < 0) = false := decide_eq_false (by omega)
    have hneg2 : decide (1 + (cntCo Z : Int) < 0) = false := decide_eq_false (by omega)
    go_enter Try.func4, Try.ntmps4
    go_wp2_with fail
    refine (szFrame p wd ht rs ao n cap 1048576 _ _ (by omega) (by omega) (by omega) HSZ).mono ?_
    generalize (w.alloc (.cells #[.int .i64 p, .int .i64 wd, .int .i64 ht, .int .i64 rs, .slice ao n cap] 46)) = wx at *
    rintro e w1 ⟨rfl, X1⟩
    have ca := frameCells ((X1.block w.heap.size hgs (by simp)).trans (unhide HBF))
    generalize (1048576 : Int) - (n : Int) = sz at hneg
    go_wp2_with fail
    refine (toFrame p wd ht rs ao n cap C w1 ((unhide HR).grown (grown_trans (unhide G) X1)) hn).mono ?_
    rintro e w2 ⟨q1, rfl, o2, g2⟩
    have X2 := grown_trans X1 g2
    clear ca X1 g2
    go_wp2_with fail
    refine (specEmpty p wd ht rs _ n n C w2 (own_rdC o2) fb HFB Z HZ).mono ?_
    rintro e w3 ⟨uW, FW, rfl, oW, nW, lW, g3⟩
    obtain ⟨wo, wc, rfl⟩ := Bc.form oW
    rw [unhide HZL] at oW ⊢
    have X3 : wx.grownBy (w3.alloc (.cells #[.slice wo zl wc] 29)) none := grown_alloc (grown_trans X2 g3) _
    have ca := frameCells ((X3.block w.heap.size hgs (by simp)).trans (unhide HBF))
    have HW3 := hide (Bc.new oW)
    have FWL : Hid (∀ g ∈ FW, g < w3.heap.size) := fun g e => oW.lt g e
    have hz3 : w3.heap.size < (w3.alloc (.cells #[.slice wo zl wc] 29)).heap.size := by simp
    have hzx := X3.size
    clear o2 g3 X2 oW nW lW
    go_wp2_with fail
    generalize (w3.alloc (.cells #[.slice wo zl wc] 29)) = w3b at *
    refine (toFrame p wd ht rs ao n cap C w3b ((unhide HR).grown (grown_trans (unhide G) X3)) hn).mono ?_
    rintro e w4 ⟨q2, rfl, o4, g4⟩
    have g5 := grown_alloc g4 (.cells #[.int .i64 p, .int .i64 wd, .int .i64 ht, .int .i64 rs, .slice (some ⟨q2, 0, none⟩) n n] 26)
    have X5 := hide (grown_trans X3 g5)
    have HW5 := hide ((unhide HW3).keep g5)
    have BX : Hid (w3b.heap.size ≤ q2 ∧ q2 < w4.heap.size) := o4.lt q2 rfl
    have HX5 := hide (Bf.new o4 p wd ht rs)
    have hz4 := g4.size
    have hz5 : w4.heap.size < (w4.alloc (.cells #[.int .i64 p, .int .i64 wd, .int .i64 ht, .int .i64 rs, .slice (some ⟨q2, 0, none⟩) n n] 26)).heap.size := by simp
    clear ca g4 X3 HW3 o4 g5
    go_wp2_with fail
    generalize (w4.alloc (.cells #[.int .i64 p, .int .i64 wd, .int .i64 ht, .int .i64 rs, .slice (some ⟨q2, 0, none⟩) n n] 26)) = w5 at *
    refine (unhide HI p wd ht rs _ n n C w5 (unhide HX5).rd hn fb HFB Z HZ).mono ?_
    rintro e w6 ⟨uY, FY, rfl, oY, nY, lY, g6⟩
    obtain ⟨yo, yc, rfl⟩ := Bc.form oY
    rw [unhide HZL] at oY ⊢
    have g7 := grown_alloc g6 (.cells #[.slice yo zl yc] 29)
    have X7 := grown_trans (unhide X5) g7
    have HW7 := hide ((unhide HW5).keep g7)
    have HX7 := hide ((unhide HX5).keep g7)
    have HY7 := hide (Bc.new oY)
    have NY := hide nY
    have FYL : Hid (∀ g ∈ FY, w5.heap.size ≤ g ∧ g < w6.heap.size) := fun g e => ⟨lY g e, oY.lt g e⟩
    have hz6 := g6.size
    have hz7 : w6.heap.size < (w6.alloc (.cells #[.slice yo zl yc] 29)).heap.size := by simp
    have y0 := (unhide HY7).cell
    have v0 := (unhide HW7).cell
    clear HW5 HX5 X5 g6 g7 oY nY lY
    go_wp2_with fail
    generalize (w6.alloc (.cells #[.slice yo zl yc] 29)) = w7 at *
    refine (eqCoefsC w7 _ _ Z (unhide HY7).own.rd (unhide HW7).own.rd hwl4).mono ?_
    rintro e w8 ⟨rfl, g8⟩
    have X8 := grown_trans X7 g8
    have HW8 := hide ((unhide HW7).keep g8)
    have HX8 := hide ((unhide HX7).keep g8)
    have HY8 := hide ((unhide HY7).keep g8)
    have hz8 := g8.size
    have ca := frameCells ((X8.block w.heap.size hgs (by simp)).trans (unhide HBF))
    have cx := frameCells (unhide HX8).box
    clear HW7 HX7 HY7 X7 g8 y0 v0
    go_wp2
    go_region_with (first | (go_at_call 21; refine (toFrame p wd ht rs ao n cap C _ ((unhide HR).grown (grown_trans (unhide G) (grown_drew X8))) hn).mono ?_; rintro e w9 ⟨q3, rfl, o9, g9x⟩; have g9 := grown_trans (grown_drew (World.grownBy.refl w8 none)) g9x; have R9 := hide ((unhide HX8).keep g9).rd; have S9 := hide (own_rdC o9); have cx' := frameCells ((unhide HX8).keep g9).box; clear o9 g9x) | (go_at_call 23; refine (eqFrame p wd ht rs _ _ n n n C _ (unhide R9) (unhide S9) hn).mono ?_; rintro e wa ⟨rfl, gax⟩; have ga := grown_trans g9 gax; clear gax))
    all_goals
      have Xa := grown_trans X8 ga
      have HWa := hide ((unhide HW8).keep ga)
      have HXa := hide ((unhide HX8).keep ga)
      have HYa := hide ((unhide HY8).keep ga)
      have cxa := frameCells (unhide HXa).box
      have hza := ga.size
      clear ca cx cx' g9 R9 S9 ga X8 HW8 HX8 HY8
      go_wp2_with fail
      refine (markFrame p wd ht rs _ n _ _ C 1 wa (unhide HXa).own hn (by omega) (by omega)).mono ?_
      rintro e wb ⟨rfl, _, gb⟩
      have bx := unhide BX
      have WR : Wr [q2] wa wb := Wr.ofRow gb (fun g e => by have e9 : q2 = g := Option.some.inj e; simp [e9])
      have Xb := grown_new Xa gb (fun g e => by have e9 : q2 = g := Option.some.inj e; have := (unhide HXa).lt; omega)
      have HWb := hide ((unhide HWa).wr WR (by simp; omega) (fun x hx e => by simp at e; have := unhide FWL x hx; omega))
      have HYb := hide ((unhide HYa).wr WR (by simp; omega) (fun x hx e => by simp at e; have := unhide FYL x hx; omega))
      have hzb := gb.size
      have y0 := (unhide HYb).cell
      have v0 := (unhide HWb).cell
      clear HXa HWa HYa gb Xa cxa WR
      generalize (1 : Int) + 4 * (n : Int) = pk at *
      go_wp2_with fail
      refine (eqCoefsC wb _ _ Z (unhide HYb).own.rd (unhide HWb).own.rd hwl4).mono ?_
      rintro e wc1 ⟨rfl, gc⟩
      have Xc := grown_trans Xb gc
      have HWc := hide ((unhide HWb).keep gc)
      have HYc := hide ((unhide HYb).keep gc)
      have hzc := gc.size
      clear y0 v0
      have y0 := (unhide HYc).cell
      clear HWb HYb gc Xb
      go_wp2_with fail
      refine (markCoefsC wc1 _ Z FY 1 (unhide HYc).own (unhide NY) hwl4 (by omega) (by omega)).mono ?_
      rintro e wd1 ⟨rfl, oYd, gd⟩
      have Xd := Wr.new Xc gd (fun g e => by have := unhide FYL g e; omega)
      have HWd := hide ((unhide HWc).wr gd (fun e => by have := unhide FYL _ e; omega) (fun x hx e => by have := unhide FWL x hx; have := unhide FYL x e; omega))
      have HYd : Hid (Bc wd1 w6.heap.size (.slice yo zl yc) (mkCo Z 1) FY) := ⟨(gd.block _ (unhide HYc).lt (fun e => by have := unhide FYL _ e; omega)).trans (unhide HYc).box, oYd⟩
      clear y0
      have y0 := (unhide HYd).cell
      clear HWc HYc gd Xc oYd
      go_wp2_with fail
      refine (heldCoefsC wd1 _ Z 1 (unhide HYd).own.rd hwl4 (by omega) (by omega)).mono ?_
      rintro e we ⟨rfl, ge⟩
      have Xe := grown_trans Xd ge
      have HWe := hide ((unhide HWd).keep ge)
      have HYe := hide ((unhide HYd).keep ge)
      have ca := frameCells ((Xe.block w.heap.size hgs (by simp)).trans (unhide HBF))
      clear y0 HWd HYd ge Xd
      go_wp2_with fail
      refine (toFrame p wd ht rs ao n cap C we ((unhide HR).grown (grown_trans (unhide G) Xe)) hn).mono ?_
      rintro e wf ⟨q4, rfl, of, gf⟩
      have Xf := grown_trans Xe gf
      have HWf := hide ((unhide HWe).keep gf)
      have HYf := hide ((unhide HYe).keep gf)
      clear HWe HYe gf Xe ca
      go_wp2_with fail
      refine (unhide HI p wd ht rs _ n n C wf (own_rdC of) hn fb HFB Z HZ).mono ?_
      rintro e wg ⟨uZ, FZ, rfl, oZ, nZ, lZ, gg⟩
      obtain ⟨zo, zc, rfl⟩ := Bc.form oZ
      rw [unhide HZL] at oZ ⊢
      have gh := grown_alloc gg (.cells #[.slice zo zl zc] 29)
      have Xh := grown_trans Xf gh
      have HWh := hide ((unhide HWf).keep gh)
      have HYh := hide ((unhide HYf).keep gh)
      have HZh := hide (Bc.new oZ)
      have z0 := (unhide HZh).cell
      have v0 := (unhide HWh).cell
      clear HWf HYf gg gh Xf oZ nZ lZ of
      go_wp2_with fail
      generalize (wg.alloc (.cells #[.slice zo zl zc] 29)) = wh at *
      refine (eqCoefsC wh _ _ Z (unhide HZh).own.rd (unhide HWh).own.rd hwl4).mono ?_
      rintro e wi ⟨rfl, gi⟩
      have Xi := grown_trans Xh gi
      have HYi := hide ((unhide HYh).keep gi)
      have y0 := (unhide HYi).cell
      clear z0 v0 HWh HYh HZh gi Xh
      go_wp2_with fail
      refine (heldCoefsC wi _ Z 1 (unhide HYi).own.rd hwl4 (by omega) (by omega)).mono ?_
      rintro e wj ⟨rfl, gj⟩
      have Xj := grown_trans Xi gj
      go_wp2
      go_ret
      exact ⟨rfl, grown_below (grown_trans (unhide G) Xj)⟩
  · have HSZ : Hid ((if (n : Int) ≤ 1048576 then 1048576 - (n : Int) else -1) = -1) := if_neg hbig
    go_enter Try.func4, Try.ntmps4
    go_wp2_with fail
    refine (szFrame p wd ht rs ao n cap 1048576 _ _ (by omega) (by omega) (by omega) HSZ).mono ?_
    rintro e w0 ⟨rfl, g0⟩
    go_wp2
    go_ret
    exact ⟨rfl, grown_below (grown_trans (unhide G) g0)⟩

end Go.Proofs.Ytibgldanmhckiaa
