/-
  The walk of what draws a frame from a code.
-/
import Derived.Test.YtoeehfjbnbbijaaFrameDraw
import Derived.Test.YtoeehfjbnbbijaaFrameRead3
namespace Go.Proofs.Ytoeehfjbnbbijaa
open Go.RowKit

/-- One component more. -/
def pushC (C : Nat → Nat → Int) (m : Nat) (y0 y1 y2 y3 : Int) : Nat → Nat → Int := fun i => if i = m then (fun j => if j = 0 then y0 else if j = 1 then y1 else if j = 2 then y2 else y3) else C i
theorem rowsK_push (C : Nat → Nat → Int) (m : Nat) (y0 y1 y2 y3 : Int) : rowsK m 4 (compCells C) ++ [.int .i64 y0, .int .i64 y1, .int .i64 y2, .int .i64 y3] = rowsK (m + 1) 4 (compCells (pushC C m y0 y1 y2 y3)) := by
  have e : rowsK m 4 (compCells C) = rowsK m 4 (compCells (pushC C m y0 y1 y2 y3)) := rowsK_congr (fun i j hi _ => by simp [compCells, pushC, show ¬ i = m by omega])
  rw [e]
  exact (rowsK_comp (pushC C m y0 y1 y2 y3) m y0 y1 y2 y3 (by simp [pushC])).symm

/-- What holds of the frame that is drawn, at a step of the loop. -/
def BunD (wx : World) (tb g m q sz xb : Nat) (ao : Option Addr) (n cap : Nat) (zs : List Int) (so : Option Addr) (sc : Nat) (C : Nat → Nat → Int) (p0 wd0 ht0 rs0 : Int) (W : World) : Prop :=
  W.heap[g]? = some (.cells #[.int .i64 p0, .int .i64 wd0, .int .i64 ht0, .int .i64 rs0, .slice so m sc] 40 (0, 0)) ∧ W.ownsRow (g + 1) 77 4 (.slice so m sc) m (rowsK m 4 (compCells C)) ∧ Cur W tb ao n cap zs q ∧ wx.grownBy W (some tb) ∧ W.heap.size = sz ∧ ∀ g', (Value.slice so m sc).ownBlock = some g' → g' < xb
theorem BunD.set {wx : World} {tb g m q sz xb : Nat} {ao : Option Addr} {n cap : Nat} {zs : List Int} {so : Option Addr} {sc : Nat} {C : Nat → Nat → Int} {p0 wd0 ht0 rs0 : Int} {W : World} (h : BunD wx tb g m q sz xb ao n cap zs so sc C p0 wd0 ht0 rs0 W) (hx : wx.heap.size ≤ xb) (hg : g ≠ xb) (ht : tb < wx.heap.size) (hcode : 0 < n → ∀ b off, ao = some ⟨b, off, none⟩ → b < wx.heap.size) (j : Nat) (u : Value) :
    BunD wx tb g m q sz xb ao n cap zs so sc C p0 wd0 ht0 rs0 (W.setCell ⟨xb, j, none⟩ u) := by
  obtain ⟨h1, h2, h3, h4, h5, h6⟩ := h
  have hs := grown_set W xb j u
  refine ⟨(hs.block g (Array.getElem?_eq_some_iff.1 h1).1 (by simp; omega)).trans h1, own_sameAt h2 (fun g' e => Below.heap_setCell _ _ _ _ ?_), h3.beside hs (fun g' e => by simp at e; exact ⟨by omega, fun h b off e' => by have := hcode h b off e'; omega⟩), grown_tb h4 hs (fun g' e => by simp at e; omega), by simpa using h5, h6⟩
  have := h6 g' e
  show g' ≠ xb
  omega

theorem compCells4 {w : World} {g : Nat} {a b c d : Value} {t : TypeId} (hb : w.heap[g]? = some (.cells #[a, b, c, d] t (0, 0))) :
    w.cell? ⟨g, 0, none⟩ = some a ∧ w.cell? ⟨g, 1, none⟩ = some b ∧ w.cell? ⟨g, 2, none⟩ = some c ∧ w.cell? ⟨g, 3, none⟩ = some d :=
  ⟨by rw [cell_of_row w _ 0 _ _ (0, 0) hb]; rfl, by rw [cell_of_row w _ 1 _ _ (0, 0) hb]; rfl, by rw [cell_of_row w _ 2 _ _ (0, 0) hb]; rfl, by rw [cell_of_row w _ 3 _ _ (0, 0) hb]; rfl⟩
theorem compFree4 {w : World} {g : Nat} {cs : Array Value} {t : TypeId} (hb : w.heap[g]? = some (.cells cs t (0, 0))) : w.frozen? ⟨g, 1, none⟩ = false ∧ w.frozen? ⟨g, 2, none⟩ = false :=
  ⟨frozen_of_row w _ 1 _ _ hb, frozen_of_row w _ 2 _ _ hb⟩

set_option maxRecDepth 20000 in
set_option maxHeartbeats 3200000 in
theorem drawFrame (tb : Nat) (ao : Option Addr) (n cap p : Nat) (zs : List Int) (w : World) (h : Cur w tb ao n cap zs p) (hp : p ≤ 1000000) (hcode : 0 < n → ∀ b off, ao = some ⟨b, off, none⟩ → b < w.heap.size) :
    Calls Try.prog 69 #[.pointer (some ⟨tb, 0, none⟩)] w fun e w' => ∃ (p0 wd0 ht0 rs0 : Int) (C : Nat → Nat → Int) (m bc q' : Nat) (bo : Option Addr), e = .returned (.agg #[.int .i64 p0, .int .i64 wd0, .int .i64 ht0, .int .i64 rs0, .slice bo m bc]) ∧ 1 ≤ m ∧ m ≤ 4 ∧
      w'.ownsRow w.heap.size 77 4 (.slice bo m bc) m (rowsK m 4 (compCells C)) ∧ Cur w' tb ao n cap zs q' ∧ q' ≤ p + 100 ∧ w.grownBy w' (some tb) := by
  obtain ⟨ic, hic, hz0, hz1, hz2⟩ := info_parts Try.info77
  have htb : tb < w.heap.size := h.lt
  have H := hide h
  have HC := hide hcode
  clear hcode
  clear h
  have G0 : Hid (w.grownBy (w.alloc (.cells #[.int .i64 0, .int .i64 0, .int .i64 0, .int .i64 0, .slice none 0 0] 40)) none) := grown_alloc (World.grownBy.refl _ _) _
  have HB0 := hide (heap_alloc_new w (.cells #[.int .i64 0, .int .i64 0, .int .i64 0, .int .i64 0, .slice none 0 0] 40))
  have hgs : w.heap.size < (w.alloc (.cells #[.int .i64 0, .int .i64 0, .int .i64 0, .int .i64 0, .slice none 0 0] 40)).heap.size := by simp
  go_enter Try.func69, Try.ntmps69
  go_wp2_with fail
  generalize (w.alloc (.cells #[.int .i64 0, .int .i64 0, .int .i64 0, .int .i64 0, .slice none 0 0] 40)) = wx at *
  have HX := hide ((unhide H).grown (unhide G0))
  have hbt : tb < wx.heap.size := by omega
  refine wp_region_steps (fun listed a w' => ∃ v, a = actD tb w.heap.size v ∧ InvD tb wx.heap.size ao n cap p zs wx v listed w') (by kernel_rfl) (by kernel_rfl) ?start ?steps ?done
  case start =>
    refine ⟨fun _ => undef, rfl, grown_weak (grown_drew (World.grownBy.refl _ _)), ⟨p, (unhide HX).grown (grown_drew (World.grownBy.refl _ _)), by omega⟩, .inr (fun j _ hd => absurd hd (not_done_start _ _))⟩
  case done =>
    rintro listed a w1 hall ⟨v, rfl, g1, ⟨q, hc, q0⟩, hJ⟩
    have hq8 := cntD_le listed
    have hF : FraD wx.heap.size w1 (v 3) := by
      rcases hJ with ⟨_, h, _⟩ | h
      · exact h
      · exact h 17 (by omega) (hall 17 (by decide))
    obtain ⟨g, p0, wd0, ht0, rs0, e3, hb, hge⟩ := hF
    have hqp : q ≤ p + 8 := by omega
    clear hall hJ q0 hq8
    unfold actD
    rw [e3]
    go_wp2_with fail
    refine (pick_of tb ao n cap q 4 zs w1 hc (by omega) (by omega) (by omega)).mono ?_
    rintro e w2 ⟨x, q2, rfl, hx0, hx1, hc2, hq2, g2⟩
    obtain ⟨k0, rfl⟩ := Int.eq_ofNat_of_zero_le hx0
    have hb2 := (g2.block g (Array.getElem?_eq_some_iff.1 hb).1 (by simp; omega)).trans hb
    have G2 := grown_trans g1 g2
    have hk1 := i64_in (1 + (k0 : Int)) (by omega)
    clear g1 g2 hc hb
    generalize v 7 = v7
    generalize v 8 = v8
    generalize v 9 = v9
    generalize v 10 = v10
    generalize v 11 = v11
    generalize v 12 = v12
    generalize v 13 = v13
    generalize v 14 = v14
    generalize v 15 = v15
    generalize v 16 = v16
    generalize v 17 = v17
    generalize v 18 = v18
    generalize v 19 = v19
    generalize v 20 = v20
    generalize v 21 = v21
    generalize v 22 = v22
    generalize v 23 = v23
    go_wp2_with fail
    go_loopw [4, 5] (fun al i wr => ∃ (al' : Int) (C : Nat → Nat → Int) (k m q' : Nat) (vc : Value), al = .int .i64 al' ∧ i = .int .i64 k ∧ m + k = 1 + k0 ∧ wr.heap[g]? = some (.cells #[.int .i64 p0, .int .i64 wd0, .int .i64 ht0, .int .i64 rs0, vc] 40 (0, 0)) ∧
      wr.ownsRow (g + 1) 77 4 vc m (rowsK m 4 (compCells C)) ∧ Cur wr tb ao n cap zs q' ∧ q' ≤ p + 10 + 20 * m ∧ wx.grownBy wr (some tb)) (fun _ i _ => (intOf i).toNat)
    case atStart => exact ⟨0, fun _ _ => 0, 1 + k0, 0, q2, .slice none 0 0, rfl, by simp, by omega, hb2, World.ownsRow_nil _ _ _ _, hc2, by omega, G2⟩
    case round =>
      obtain ⟨al', C, k, m, q', vc, rfl, rfl, hmk, hbk, hob, hck, hqk, hgk⟩ := hrel
      by_cases hk : 0 < k
      · have hd : decide ((0 : Int) < (k : Int)) = true := by simp; omega
        go_wp2_with fail
        refine (pick_of tb ao n cap q' 2 zs wr hck (by omega) (by omega) (by omega)).mono ?_
        rintro e w3 ⟨x3, q3, rfl, _, _, hc3, hq3, g3⟩
        go_wp2_with fail
        refine (pick_of tb ao n cap q3 2 zs w3 hc3 (by omega) (by omega) (by omega)).mono ?_
        rintro e w4 ⟨x4, q4, rfl, _, _, hc4, hq4, g4⟩
        go_wp2_with fail
        refine (pick_of tb ao n cap q4 4 zs w4 hc4 (by omega) (by omega) (by omega)).mono ?_
        rintro e w5 ⟨x5, q5, rfl, _, _, hc5, hq5, g5⟩
        go_wp2_with fail
        have g35 := grown_trans (grown_trans g3 g4) g5
        have hb5 := (g35.block g (Array.getElem?_eq_some_iff.1 hbk).1 (by simp; omega)).trans hbk
        have ob5 := own_beneath hob g35 (fun g' t' h h' => by have := (hob.lt g' h).1; simp at h'; omega)
        have G5 := grown_trans hgk g35
        have hgl5 := (Array.getElem?_eq_some_iff.1 hb5).1
        have A5 : w5.grownBy (w5.alloc (.cells #[.int .i64 (10 * (k : Int)), .int .i64 (1 + x3), .int .i64 (1 + x4), .int .i64 x5] 77)) none := World.grownBy_alloc _ _ _
        have HN5 := hide (heap_alloc_new w5 (.cells #[.int .i64 (10 * (k : Int)), .int .i64 (1 + x3), .int .i64 (1 + x4), .int .i64 x5] 77))
        have hc5a := hc5.grown A5
        have hb5a := (A5.block g hgl5 (by simp)).trans hb5
        have ob5a := ob5.alloc (.cells #[.int .i64 (10 * (k : Int)), .int .i64 (1 + x3), .int .i64 (1 + x4), .int .i64 x5] 77)
        have G5a := grown_tb G5 A5 (fun g' e => by simp at e)
        have hxb : w5.heap.size < (w5.alloc (.cells #[.int .i64 (10 * (k : Int)), .int .i64 (1 + x3), .int .i64 (1 + x4), .int .i64 x5] 77)).heap.size := by simp
        have OBL : Hid (∀ g', vc.ownBlock = some g' → g + 1 ≤ g' ∧ g' < w5.heap.size) := fun g' e => ob5.lt g' e
        clear g3 g4 g5 g35 hob hgk hck hc3 hc4 hbk G5 ob5 hb5 hc5 A5
        generalize (w5.alloc (.cells #[.int .i64 (10 * (k : Int)), .int .i64 (1 + x3), .int .i64 (1 + x4), .int .i64 x5] 77)) = w5a at *
        refine (once_of tb ao n cap q5 12 zs w5a hc5a (by omega) (by omega) (by omega)).mono ?_
        rintro e w6 ⟨t, q6, rfl, hc6, hq6, g6⟩
        have hb6 := (g6.block g (Array.getElem?_eq_some_iff.1 hb5a).1 (by simp; omega)).trans hb5a
        have hn6 := (g6.block w5.heap.size hxb (by simp; omega)).trans (unhide HN5)
        have ob6 := own_beneath ob5a g6 (fun g' t' h h' => by have := (ob5a.lt g' h).1; simp at h'; omega)
        have G6 := grown_trans G5a g6
        have c6 := compCells4 hn6
        have f6 := compFree4 hn6
        generalize 10 * (k : Int) = c0 at *
        generalize 1 + x3 = c1 at *
        generalize 1 + x4 = c2 at *
        clear g6 hb5a ob5a G5a hc5a HN5
        have hne1 : ¬ g = w5.heap.size := by omega
        have hne2 : ¬ w5.heap.size = g := by omega
        have hz6 : w5.heap.size < w6.heap.size := (Array.getElem?_eq_some_iff.1 hn6).1
        obtain ⟨so, sc, hv⟩ := own_form ob6
        subst hv
        have OB6 := hide ob6
        clear ob6
        have B6 : BunD wx tb g m q6 w6.heap.size w5.heap.size ao n cap zs so sc C p0 wd0 ht0 rs0 w6 := ⟨hb6, unhide OB6, hc6, G6, rfl, fun g' e => (unhide OBL g' e).2⟩
        have HCX : Hid (0 < n → ∀ b off, ao = some ⟨b, off, none⟩ → b < wx.heap.size) := fun h b off e => by have := unhide HC h b off e; omega
        have hxx : wx.heap.size ≤ w5.heap.size := by omega
        have k6 := frameCells5 hb6
        have l6 := frameFree hb6
        cases t
        · by_cases hbig : (10 : Int) < wrap64 (al' + wrap64 (c1 * c2))
          · have hdb : decide ((10 : Int) < wrap64 (al' + wrap64 (c1 * c2))) = true := decide_eq_true hbig
            have BU := hide ((B6.set hxx hne1 hbt (unhide HCX) 1 (.int .i64 1)).set hxx hne1 hbt (unhide HCX) 2 (.int .i64 1))
            clear B6 G6 hc6 OB6
            go_wp2_with (at_builtin; refine wpList_append_own _ rfl _ _ 38 rfl (g + 1) 77 ic _ 4 32 Try.underlying38 hic hz0 hz1 hz2 rfl (by decide) (.slice so m sc) m (rowsK m 4 (compCells C)) rfl ((unhide BU).2.1.alloc _) ⟨w6.heap.size, 0, none⟩ 1 1 [.int .i64 c0, .int .i64 1, .int .i64 1, .int .i64 x5] rfl rfl ?n1 ?n2 ?n3 ?n4 ?n5 ?_)
            case n1 =>
              have hnew := heap_alloc_new (((w6).setCell ⟨w5.heap.size, 1, none⟩ (.int .i64 1)).setCell ⟨w5.heap.size, 2, none⟩ (.int .i64 1)) (.cells #[.int .i64 c0, .int .i64 1, .int .i64 1, .int .i64 x5] 77)
              rw [(unhide BU).2.2.2.2.1] at hnew
              exact World.news_of_block (cs := #[.int .i64 c0, .int .i64 1, .int .i64 1, .int .i64 x5]) (t := 77) (fr := (0, 0)) hnew
            case n2 => intro u hu; simp at hu; rcases hu with rfl | rfl | rfl | rfl <;> rfl
            case n3 => unfold maxLen; omega
            case n4 => omega
            case n5 => simp; omega
            intro v8 w8 hown8 hgrow8 _
            have BU' := unhide BU
            clear BU
            generalize (((w6).setCell ⟨w5.heap.size, 1, none⟩ (.int .i64 1)).setCell ⟨w5.heap.size, 2, none⟩ (.int .i64 1)) = w6' at *
            obtain ⟨hb6', ob6', hc6', G6', _, _⟩ := BU'
            have A6 : w6'.grownBy (w6'.alloc (.cells #[.int .i64 c0, .int .i64 1, .int .i64 1, .int .i64 x5] 77)) none := World.grownBy_alloc _ _ _
            have hol : ∀ g', (Value.slice so m sc).ownBlock = some g' → g + 1 ≤ g' := fun g' e => (ob6'.lt g' e).1
            have hgl6 := (Array.getElem?_eq_some_iff.1 hb6').1
            have hb8 := (hgrow8.block g (Nat.lt_of_lt_of_le hgl6 A6.size) (fun e => by have := hol g e.symm; omega)).trans ((A6.block g hgl6 (by simp)).trans hb6')
            have hc8 := (hc6'.grown A6).beside hgrow8 (fun g' e => by have := hol g' e; exact ⟨by omega, fun h b off e' => by have := unhide HC h b off e'; omega⟩)
            have G8 := grown_tb (grown_tb G6' A6 (fun g' e => by simp at e)) hgrow8 (fun g' e => by have := hol g' e; omega)
            have O8 := own_as4 hown8 (n' := m + 1) rfl (rowsK_push C m c0 1 1 x5)
            obtain ⟨so8, sc8, hv8⟩ := own_form O8
            subst hv8
            have k8 := frameCells5 hb8
            have l8 := frameFree hb8
            have hb9 := heap_setCell_same w8 g 4 _ _ (.slice so8 (m + 1) sc8) hb8
            have G9 := grown_tb G8 (grown_set w8 g 4 (.slice so8 (m + 1) sc8)) (fun g' e => by simp at e; omega)
            have hc9 := hc8.beside (grown_set w8 g 4 (.slice so8 (m + 1) sc8)) (fun g' e => by simp at e; exact ⟨by omega, fun h b off e' => by have := unhide HC h b off e'; omega⟩)
            have O9 : (w8.setCell ⟨g, 4, none⟩ (.slice so8 (m + 1) sc8)).ownsRow (g + 1) 77 4 (.slice so8 (m + 1) sc8) (m + 1) (rowsK (m + 1) 4 (compCells (pushC C m c0 1 1 x5))) := by
              refine own_sameAt O8 (fun g' e => Below.heap_setCell _ _ _ _ ?_)
              have := (O8.lt g' e).1
              show g' ≠ g
              omega
            have H9 := hide (And.intro hb9 (And.intro O9 (And.intro hc9 G9)))
            clear hb9 G9 hc9 O9 hown8 hgrow8 A6 hb8 hc8 G8 O8 hb6' ob6' hc6' G6'
            go_wp2
            go_roundw
            case rel =>
              obtain ⟨hb9, O9, hc9, G9⟩ := unhide H9
              exact ⟨_, pushC C m c0 1 1 x5, k - 1, m + 1, q6, .slice so8 (m + 1) sc8, rfl, by go_num, by omega, hb9, O9, hc9, by omega, G9⟩
            case measure => simp [intOf]; omega
          · have hdb : decide ((10 : Int) < wrap64 (al' + wrap64 (c1 * c2))) = false := decide_eq_false hbig
            have BU := hide B6
            clear B6 G6 hc6 OB6
            go_wp2_with (at_builtin; refine wpList_append_own _ rfl _ _ 38 rfl (g + 1) 77 ic _ 4 32 Try.underlying38 hic hz0 hz1 hz2 rfl (by decide) (.slice so m sc) m (rowsK m 4 (compCells C)) rfl ((unhide BU).2.1.alloc _) ⟨w6.heap.size, 0, none⟩ 1 1 [.int .i64 c0, .int .i64 c1, .int .i64 c2, .int .i64 x5] rfl rfl ?n1 ?n2 ?n3 ?n4 ?n5 ?_)
            case n1 =>
              have hnew := heap_alloc_new (w6) (.cells #[.int .i64 c0, .int .i64 c1, .int .i64 c2, .int .i64 x5] 77)
              rw [(unhide BU).2.2.2.2.1] at hnew
              exact World.news_of_block (cs := #[.int .i64 c0, .int .i64 c1, .int .i64 c2, .int .i64 x5]) (t := 77) (fr := (0, 0)) hnew
            case n2 => intro u hu; simp at hu; rcases hu with rfl | rfl | rfl | rfl <;> rfl
            case n3 => unfold maxLen; omega
            case n4 => omega
            case n5 => simp; omega
            intro v8 w8 hown8 hgrow8 _
            have BU' := unhide BU
            clear BU
            obtain ⟨w6', hw6⟩ : ∃ w', w' = w6 := ⟨_, rfl⟩
            subst hw6
            obtain ⟨hb6', ob6', hc6', G6', _, _⟩ := BU'
            have A6 : w6'.grownBy (w6'.alloc (.cells #[.int .i64 c0, .int .i64 c1, .int .i64 c2, .int .i64 x5] 77)) none := World.grownBy_alloc _ _ _
            have hol : ∀ g', (Value.slice so m sc).ownBlock = some g' → g + 1 ≤ g' := fun g' e => (ob6'.lt g' e).1
            have hgl6 := (Array.getElem?_eq_some_iff.1 hb6').1
            have hb8 := (hgrow8.block g (Nat.lt_of_lt_of_le hgl6 A6.size) (fun e => by have := hol g e.symm; omega)).trans ((A6.block g hgl6 (by simp)).trans hb6')
            have hc8 := (hc6'.grown A6).beside hgrow8 (fun g' e => by have := hol g' e; exact ⟨by omega, fun h b off e' => by have := unhide HC h b off e'; omega⟩)
            have G8 := grown_tb (grown_tb G6' A6 (fun g' e => by simp at e)) hgrow8 (fun g' e => by have := hol g' e; omega)
            have O8 := own_as4 hown8 (n' := m + 1) rfl (rowsK_push C m c0 c1 c2 x5)
            obtain ⟨so8, sc8, hv8⟩ := own_form O8
            subst hv8
            have k8 := frameCells5 hb8
            have l8 := frameFree hb8
            have hb9 := heap_setCell_same w8 g 4 _ _ (.slice so8 (m + 1) sc8) hb8
            have G9 := grown_tb G8 (grown_set w8 g 4 (.slice so8 (m + 1) sc8)) (fun g' e => by simp at e; omega)
            have hc9 := hc8.beside (grown_set w8 g 4 (.slice so8 (m + 1) sc8)) (fun g' e => by simp at e; exact ⟨by omega, fun h b off e' => by have := unhide HC h b off e'; omega⟩)
            have O9 : (w8.setCell ⟨g, 4, none⟩ (.slice so8 (m + 1) sc8)).ownsRow (g + 1) 77 4 (.slice so8 (m + 1) sc8) (m + 1) (rowsK (m + 1) 4 (compCells (pushC C m c0 c1 c2 x5))) := by
              refine own_sameAt O8 (fun g' e => Below.heap_setCell _ _ _ _ ?_)
              have := (O8.lt g' e).1
              show g' ≠ g
              omega
            have H9 := hide (And.intro hb9 (And.intro O9 (And.intro hc9 G9)))
            clear hb9 G9 hc9 O9 hown8 hgrow8 A6 hb8 hc8 G8 O8 hb6' ob6' hc6' G6'
            go_wp2
            go_roundw
            case rel =>
              obtain ⟨hb9, O9, hc9, G9⟩ := unhide H9
              exact ⟨_, pushC C m c0 c1 c2 x5, k - 1, m + 1, q6, .slice so8 (m + 1) sc8, rfl, by go_num, by omega, hb9, O9, hc9, by omega, G9⟩
            case measure => simp [intOf]; omega
        · go_wp2_with fail
          refine (pick_of tb ao n cap q6 4 zs w6 hc6 (by omega) (by omega) (by omega)).mono ?_
          rintro e w7 ⟨x7, q7, rfl, hx70, hx71, hc7, hq7, g7⟩
          have hb7 := (g7.block g (Array.getElem?_eq_some_iff.1 hb6).1 (by simp; omega)).trans hb6
          have hn7 := (g7.block w5.heap.size hz6 (by simp; omega)).trans hn6
          have ob7 := own_beneath (unhide OB6) g7 (fun g' t' h h' => by have := ((unhide OB6).lt g' h).1; simp at h'; omega)
          have hz7 := g7.size
          have B7 := (show BunD wx tb g m q7 w7.heap.size w5.heap.size ao n cap zs so sc C p0 wd0 ht0 rs0 w7 from ⟨hb7, ob7, hc7, grown_trans G6 g7, rfl, fun g' e => (unhide OBL g' e).2⟩).set hxx hne1 hbt (unhide HCX) 1 (.int .i64 (1 + x7))
          have c7 := compCells4 hn7
          have f7 := compFree4 hn7
          have k7 := frameCells5 hb7
          have l7 := frameFree hb7
          clear B6 G6 hc6 OB6 g7 ob7 hc7 hb7 hn7 c6 f6 k6 l6
          by_cases hbig : (10 : Int) < wrap64 (al' + wrap64 ((1 + x7) * c2))
          · have hdb : decide ((10 : Int) < wrap64 (al' + wrap64 ((1 + x7) * c2))) = true := decide_eq_true hbig
            have BU := hide ((B7.set hxx hne1 hbt (unhide HCX) 1 (.int .i64 1)).set hxx hne1 hbt (unhide HCX) 2 (.int .i64 1))
            clear B7
            go_wp2_with (at_builtin; refine wpList_append_own _ rfl _ _ 38 rfl (g + 1) 77 ic _ 4 32 Try.underlying38 hic hz0 hz1 hz2 rfl (by decide) (.slice so m sc) m (rowsK m 4 (compCells C)) rfl ((unhide BU).2.1.alloc _) ⟨w7.heap.size, 0, none⟩ 1 1 [.int .i64 c0, .int .i64 1, .int .i64 1, .int .i64 x5] rfl rfl ?n1 ?n2 ?n3 ?n4 ?n5 ?_)
            case n1 =>
              have hnew := heap_alloc_new (((w7.setCell ⟨w5.heap.size, 1, none⟩ (.int .i64 (1 + x7))).setCell ⟨w5.heap.size, 1, none⟩ (.int .i64 1)).setCell ⟨w5.heap.size, 2, none⟩ (.int .i64 1)) (.cells #[.int .i64 c0, .int .i64 1, .int .i64 1, .int .i64 x5] 77)
              rw [(unhide BU).2.2.2.2.1] at hnew
              exact World.news_of_block (cs := #[.int .i64 c0, .int .i64 1, .int .i64 1, .int .i64 x5]) (t := 77) (fr := (0, 0)) hnew
            case n2 => intro u hu; simp at hu; rcases hu with rfl | rfl | rfl | rfl <;> rfl
            case n3 => unfold maxLen; omega
            case n4 => omega
            case n5 => simp; omega
            intro v8 w8 hown8 hgrow8 _
            have BU' := unhide BU
            clear BU
            generalize (((w7.setCell ⟨w5.heap.size, 1, none⟩ (.int .i64 (1 + x7))).setCell ⟨w5.heap.size, 1, none⟩ (.int .i64 1)).setCell ⟨w5.heap.size, 2, none⟩ (.int .i64 1)) = w6' at *
            obtain ⟨hb6', ob6', hc6', G6', _, _⟩ := BU'
            have A6 : w6'.grownBy (w6'.alloc (.cells #[.int .i64 c0, .int .i64 1, .int .i64 1, .int .i64 x5] 77)) none := World.grownBy_alloc _ _ _
            have hol : ∀ g', (Value.slice so m sc).ownBlock = some g' → g + 1 ≤ g' := fun g' e => (ob6'.lt g' e).1
            have hgl6 := (Array.getElem?_eq_some_iff.1 hb6').1
            have hb8 := (hgrow8.block g (Nat.lt_of_lt_of_le hgl6 A6.size) (fun e => by have := hol g e.symm; omega)).trans ((A6.block g hgl6 (by simp)).trans hb6')
            have hc8 := (hc6'.grown A6).beside hgrow8 (fun g' e => by have := hol g' e; exact ⟨by omega, fun h b off e' => by have := unhide HC h b off e'; omega⟩)
            have G8 := grown_tb (grown_tb G6' A6 (fun g' e => by simp at e)) hgrow8 (fun g' e => by have := hol g' e; omega)
            have O8 := own_as4 hown8 (n' := m + 1) rfl (rowsK_push C m c0 1 1 x5)
            obtain ⟨so8, sc8, hv8⟩ := own_form O8
            subst hv8
            have k8 := frameCells5 hb8
            have l8 := frameFree hb8
            have hb9 := heap_setCell_same w8 g 4 _ _ (.slice so8 (m + 1) sc8) hb8
            have G9 := grown_tb G8 (grown_set w8 g 4 (.slice so8 (m + 1) sc8)) (fun g' e => by simp at e; omega)
            have hc9 := hc8.beside (grown_set w8 g 4 (.slice so8 (m + 1) sc8)) (fun g' e => by simp at e; exact ⟨by omega, fun h b off e' => by have := unhide HC h b off e'; omega⟩)
            have O9 : (w8.setCell ⟨g, 4, none⟩ (.slice so8 (m + 1) sc8)).ownsRow (g + 1) 77 4 (.slice so8 (m + 1) sc8) (m + 1) (rowsK (m + 1) 4 (compCells (pushC C m c0 1 1 x5))) := by
              refine own_sameAt O8 (fun g' e => Below.heap_setCell _ _ _ _ ?_)
              have := (O8.lt g' e).1
              show g' ≠ g
              omega
            have H9 := hide (And.intro hb9 (And.intro O9 (And.intro hc9 G9)))
            clear hb9 G9 hc9 O9 hown8 hgrow8 A6 hb8 hc8 G8 O8 hb6' ob6' hc6' G6'
            go_wp2
            go_roundw
            case rel =>
              obtain ⟨hb9, O9, hc9, G9⟩ := unhide H9
              exact ⟨_, pushC C m c0 1 1 x5, k - 1, m + 1, q7, .slice so8 (m + 1) sc8, rfl, by go_num, by omega, hb9, O9, hc9, by omega, G9⟩
            case measure => simp [intOf]; omega
          · have hdb : decide ((10 : Int) < wrap64 (al' + wrap64 ((1 + x7) * c2))) = false := decide_eq_false hbig
            have BU := hide B7
            clear B7
            go_wp2_with (at_builtin; refine wpList_append_own _ rfl _ _ 38 rfl (g + 1) 77 ic _ 4 32 Try.underlying38 hic hz0 hz1 hz2 rfl (by decide) (.slice so m sc) m (rowsK m 4 (compCells C)) rfl ((unhide BU).2.1.alloc _) ⟨w7.heap.size, 0, none⟩ 1 1 [.int .i64 c0, .int .i64 (1 + x7), .int .i64 c2, .int .i64 x5] rfl rfl ?n1 ?n2 ?n3 ?n4 ?n5 ?_)
            case n1 =>
              have hnew := heap_alloc_new (w7.setCell ⟨w5.heap.size, 1, none⟩ (.int .i64 (1 + x7))) (.cells #[.int .i64 c0, .int .i64 (1 + x7), .int .i64 c2, .int .i64 x5] 77)
              rw [(unhide BU).2.2.2.2.1] at hnew
              exact World.news_of_block (cs := #[.int .i64 c0, .int .i64 (1 + x7), .int .i64 c2, .int .i64 x5]) (t := 77) (fr := (0, 0)) hnew
            case n2 => intro u hu; simp at hu; rcases hu with rfl | rfl | rfl | rfl <;> rfl
            case n3 => unfold maxLen; omega
            case n4 => omega
            case n5 => simp; omega
            intro v8 w8 hown8 hgrow8 _
            have BU' := unhide BU
            clear BU
            generalize (w7.setCell ⟨w5.heap.size, 1, none⟩ (.int .i64 (1 + x7))) = w6' at *
            obtain ⟨hb6', ob6', hc6', G6', _, _⟩ := BU'
            have A6 : w6'.grownBy (w6'.alloc (.cells #[.int .i64 c0, .int .i64 (1 + x7), .int .i64 c2, .int .i64 x5] 77)) none := World.grownBy_alloc _ _ _
            have hol : ∀ g', (Value.slice so m sc).ownBlock = some g' → g + 1 ≤ g' := fun g' e => (ob6'.lt g' e).1
            have hgl6 := (Array.getElem?_eq_some_iff.1 hb6').1
            have hb8 := (hgrow8.block g (Nat.lt_of_lt_of_le hgl6 A6.size) (fun e => by have := hol g e.symm; omega)).trans ((A6.block g hgl6 (by simp)).trans hb6')
            have hc8 := (hc6'.grown A6).beside hgrow8 (fun g' e => by have := hol g' e; exact ⟨by omega, fun h b off e' => by have := unhide HC h b off e'; omega⟩)
            have G8 := grown_tb (grown_tb G6' A6 (fun g' e => by simp at e)) hgrow8 (fun g' e => by have := hol g' e; omega)
            have O8 := own_as4 hown8 (n' := m + 1) rfl (rowsK_push C m c0 (1 + x7) c2 x5)
            obtain ⟨so8, sc8, hv8⟩ := own_form O8
            subst hv8
            have k8 := frameCells5 hb8
            have l8 := frameFree hb8
            have hb9 := heap_setCell_same w8 g 4 _ _ (.slice so8 (m + 1) sc8) hb8
            have G9 := grown_tb G8 (grown_set w8 g 4 (.slice so8 (m + 1) sc8)) (fun g' e => by simp at e; omega)
            have hc9 := hc8.beside (grown_set w8 g 4 (.slice so8 (m + 1) sc8)) (fun g' e => by simp at e; exact ⟨by omega, fun h b off e' => by have := unhide HC h b off e'; omega⟩)
            have O9 : (w8.setCell ⟨g, 4, none⟩ (.slice so8 (m + 1) sc8)).ownsRow (g + 1) 77 4 (.slice so8 (m + 1) sc8) (m + 1) (rowsK (m + 1) 4 (compCells (pushC C m c0 (1 + x7) c2 x5))) := by
              refine own_sameAt O8 (fun g' e => Below.heap_setCell _ _ _ _ ?_)
              have := (O8.lt g' e).1
              show g' ≠ g
              omega
            have H9 := hide (And.intro hb9 (And.intro O9 (And.intro hc9 G9)))
            clear hb9 G9 hc9 O9 hown8 hgrow8 A6 hb8 hc8 G8 O8 hb6' ob6' hc6' G6'
            go_wp2
            go_roundw
            case rel =>
              obtain ⟨hb9, O9, hc9, G9⟩ := unhide H9
              exact ⟨_, pushC C m c0 (1 + x7) c2 x5, k - 1, m + 1, q7, .slice so8 (m + 1) sc8, rfl, by go_num, by omega, hb9, O9, hc9, by omega, G9⟩
            case measure => simp [intOf]; omega
      · obtain rfl : k = 0 := by omega
        obtain ⟨so, sc, hv⟩ := own_form hob
        subst hv
        have kk := frameCells5 hbk
        have lk := frameFree hbk
        have hbr := (hgk.block w.heap.size hgs (by simp; omega)).trans (unhide HB0)
        have kr := frameCells5 hbr
        have lr := frameFree hbr
        have fr0 := frozen_of_row wr _ 0 _ _ hbr
        have fr1 := frozen_of_row wr _ 1 _ _ hbr
        have fr2 := frozen_of_row wr _ 2 _ _ hbr
        have fr3 := frozen_of_row wr _ 3 _ _ hbr
        have hner : ¬ g = w.heap.size := by omega
        have hner2 : ¬ w.heap.size = g := by omega
        have hq : ∀ (W : World) (j : Nat) (u : Value), (W.ownsRow (g + 1) 77 4 (.slice so m sc) m (rowsK m 4 (compCells C)) ∧ Cur W tb ao n cap zs q' ∧ w.grownBy W (some tb)) →
            ((W.setCell ⟨w.heap.size, j, none⟩ u).ownsRow (g + 1) 77 4 (.slice so m sc) m (rowsK m 4 (compCells C)) ∧ Cur (W.setCell ⟨w.heap.size, j, none⟩ u) tb ao n cap zs q' ∧ w.grownBy (W.setCell ⟨w.heap.size, j, none⟩ u) (some tb)) := by
          rintro W j u ⟨h1, h2, h3⟩
          refine ⟨own_sameAt h1 (fun g' e => Below.heap_setCell _ _ _ _ ?_), h2.beside (grown_set W _ j u) (fun g' e => by simp at e; exact ⟨by omega, fun h b off e' => by have := unhide HC h b off e'; omega⟩), grown_tb h3 (grown_set W _ j u) (fun g' e => by simp at e; omega)⟩
          have := (h1.lt g' e).1
          show g' ≠ w.heap.size
          omega
        have HQ := hide hq
        have HP := hide (And.intro hob (And.intro hck (grown_trans (grown_weak (unhide G0)) hgk)))
        clear hq hob hck hgk hbk hbr
        go_wp2
        refine bodyPost_ret (v := .agg #[.int .i64 p0, .int .i64 wd0, .int .i64 ht0, .int .i64 rs0, .slice so m sc]) (by simp [results, Try.results69, go_sem, *]) rfl ?_
        have hfin := unhide HQ _ 4 (.slice so m sc) (unhide HQ _ 3 (.int .i64 rs0) (unhide HQ _ 2 (.int .i64 ht0) (unhide HQ _ 1 (.int .i64 wd0) (unhide HQ _ 0 (.int .i64 p0) (unhide HP)))))
        exact ⟨p0, wd0, ht0, rs0, C, m, sc, q', so, rfl, by omega, by omega, own_base hfin.1 (by omega), hfin.2.1, by omega, hfin.2.2⟩
  case steps =>
    refine ⟨?_, ?_⟩
    · rintro listed a w1 hi hnd hd ⟨v, rfl, hJ⟩ K hK
      unfold actD
      go_simp
      refine hK.out _ _ ⟨_, rfl, hJ.step (by omega) hi hnd hbt (World.grownBy_alloc _ _ none) (x := .slice (some ⟨w1.heap.size, 0, none⟩) 3 3) ⟨w1.heap.size, [8, 8, 12], rfl, rfl, heap_alloc_new _ _, hJ.1.size⟩⟩
    refine ⟨?_, ?_⟩
    · rintro listed a w1 hi hnd hd ⟨v, rfl, hJ⟩ K hK
      unfold actD
      go_simp
      refine hK.out _ _ ⟨_, rfl, hJ.step (by omega) hi hnd hbt (World.grownBy.refl _ none) (x := .pointer (some ⟨tb, 0, none⟩)) rfl⟩
    refine ⟨?_, ?_⟩
    · rintro listed a w1 hi hnd hd ⟨v, rfl, hJ⟩ K hK
      have hd' : depsF listed [{ on := 1, ground := .data }] := hd
      simp only [depsF, and_true] at hd'
      have d1 := hd' (by rfl)
      have e1 : v 8 = .pointer (some ⟨tb, 0, none⟩) := hJ.have (k := 2) (by omega) hnd 1 (by omega) d1
      obtain ⟨q, hc, q0⟩ := hJ.2.1
      have hq8 := cntD_le listed
      unfold actD
      go_simp
      refine (pick_of tb ao n cap q 3 zs w1 hc (by omega) (by omega) (by omega)).mono ?_
      rintro e w2 ⟨x, q', rfl, hx0, hx1, hc2, hq2, g2⟩
      obtain ⟨i, rfl⟩ := Int.eq_ofNat_of_zero_le hx0
      refine hK.out _ _ ⟨updD v (slotD 2) (.int .i64 i), (by simp [actD, updD, slotD, e1]), hJ.pick (by omega) hi hnd hbt g2 (x := .int .i64 i) ⟨i, rfl, by omega⟩ hc2 q0 hq2⟩
    refine ⟨?_, ?_⟩
    · rintro listed a w1 hi hnd hd ⟨v, rfl, hJ⟩ K hK
      have hd' : depsF listed [{ on := 0, ground := .data }, { on := 2, ground := .data }] := hd
      simp only [depsF, and_true] at hd'
      have d0 := hd'.1 (by rfl)
      have d2 := hd'.2 (by rfl)
      obtain ⟨g, cs, e1, hl, hb, hge⟩ : LitD wx.heap.size w1 (v 7) 3 := hJ.have (k := 3) (by omega) hnd 0 (by omega) d0
      obtain ⟨i, e2, hi3⟩ : LowD (v 9) 3 := hJ.have (k := 3) (by omega) hnd 2 (by omega) d2
      have hi3' : (i : Int) < 3 := by omega
      have hcell : w1.cell? ⟨g, i, none⟩ = some (.int .i64 (cs.getD i 0)) := by
        rw [cell_of_row w1 _ i _ _ (0, 0) hb]
        simp [show i < cs.length by omega]
      unfold actD
      go_simp
      refine hK.out _ _ ⟨updD v (slotD 3) (.pointer (some ⟨g, i, none⟩)), (by simp [actD, updD, slotD, e1, e2]), hJ.step (by omega) hi hnd hbt (World.grownBy.refl _ none) ⟨g, i, _, rfl, hcell, hge⟩⟩
    refine ⟨?_, ?_⟩
    · rintro listed a w1 hi hnd hd ⟨v, rfl, hJ⟩ K hK
      have hd' : depsF listed [{ on := 3, ground := .data }] := hd
      simp only [depsF, and_true] at hd'
      have d3 := hd' (by rfl)
      obtain ⟨g, i, y, e1, hcell, hge⟩ : PtrD wx.heap.size w1 (v 10) := hJ.have (k := 4) (by omega) hnd 3 (by omega) d3
      unfold actD
      go_simp
      refine hK.out _ _ ⟨updD v (slotD 4) (.int .i64 y), (by simp [actD, updD, slotD, e1]), hJ.step (by omega) hi hnd hbt (World.grownBy.refl _ none) ⟨y, rfl⟩⟩
    refine ⟨?_, ?_⟩
    · rintro listed a w1 hi hnd hd ⟨v, rfl, hJ⟩ K hK
      unfold actD
      go_simp
      refine hK.out _ _ ⟨_, rfl, hJ.step (by omega) hi hnd hbt (World.grownBy.refl _ none) (x := .pointer (some ⟨tb, 0, none⟩)) rfl⟩
    refine ⟨?_, ?_⟩
    · rintro listed a w1 hi hnd hd ⟨v, rfl, hJ⟩ K hK
      have hd' : depsF listed [{ on := 5, ground := .data }, { on := 2, ground := .chain }] := hd
      simp only [depsF, and_true] at hd'
      have d5 := hd'.1 (by rfl)
      have d2 := hd'.2 (by rfl)
      have e1 : v 12 = .pointer (some ⟨tb, 0, none⟩) := hJ.have (k := 6) (by omega) hnd 5 (by omega) d5
      obtain ⟨q, hc, q0⟩ := hJ.2.1
      have hq8 := cntD_le listed
      unfold actD
      go_simp
      refine (pick_of tb ao n cap q 20 zs w1 hc (by omega) (by omega) (by omega)).mono ?_
      rintro e w2 ⟨x, q', rfl, hx0, hx1, hc2, hq2, g2⟩
      obtain ⟨i, rfl⟩ := Int.eq_ofNat_of_zero_le hx0
      refine hK.out _ _ ⟨updD v (slotD 6) (.int .i64 i), (by simp [actD, updD, slotD, e1]), hJ.pick (by omega) hi hnd hbt g2 (x := .int .i64 i) ⟨i, rfl⟩ hc2 q0 hq2⟩
    refine ⟨?_, ?_⟩
    · rintro listed a w1 hi hnd hd ⟨v, rfl, hJ⟩ K hK
      have hd' : depsF listed [{ on := 6, ground := .data }] := hd
      simp only [depsF, and_true] at hd'
      have d6 := hd' (by rfl)
      obtain ⟨y, e1⟩ : IntD (v 13) := hJ.have (k := 7) (by omega) hnd 6 (by omega) d6
      unfold actD
      go_simp
      refine hK.out _ _ ⟨updD v (slotD 7) (.int .i64 (IntKind.i64.wrap (1 + y))), (by simp [actD, updD, slotD, e1]), hJ.step (by omega) hi hnd hbt (World.grownBy.refl _ none) ⟨_, rfl⟩⟩
    refine ⟨?_, ?_⟩
    · rintro listed a w1 hi hnd hd ⟨v, rfl, hJ⟩ K hK
      unfold actD
      go_simp
      refine hK.out _ _ ⟨_, rfl, hJ.step (by omega) hi hnd hbt (World.grownBy.refl _ none) (x := .pointer (some ⟨tb, 0, none⟩)) rfl⟩
    refine ⟨?_, ?_⟩
    · rintro listed a w1 hi hnd hd ⟨v, rfl, hJ⟩ K hK
      have hd' : depsF listed [{ on := 8, ground := .data }, { on := 6, ground := .chain }] := hd
      simp only [depsF, and_true] at hd'
      have d8 := hd'.1 (by rfl)
      have d6 := hd'.2 (by rfl)
      have e1 : v 15 = .pointer (some ⟨tb, 0, none⟩) := hJ.have (k := 9) (by omega) hnd 8 (by omega) d8
      obtain ⟨q, hc, q0⟩ := hJ.2.1
      have hq8 := cntD_le listed
      unfold actD
      go_simp
      refine (pick_of tb ao n cap q 20 zs w1 hc (by omega) (by omega) (by omega)).mono ?_
      rintro e w2 ⟨x, q', rfl, hx0, hx1, hc2, hq2, g2⟩
      obtain ⟨i, rfl⟩ := Int.eq_ofNat_of_zero_le hx0
      refine hK.out _ _ ⟨updD v (slotD 9) (.int .i64 i), (by simp [actD, updD, slotD, e1]), hJ.pick (by omega) hi hnd hbt g2 (x := .int .i64 i) ⟨i, rfl⟩ hc2 q0 hq2⟩
    refine ⟨?_, ?_⟩
    · rintro listed a w1 hi hnd hd ⟨v, rfl, hJ⟩ K hK
      have hd' : depsF listed [{ on := 9, ground := .data }] := hd
      simp only [depsF, and_true] at hd'
      have d9 := hd' (by rfl)
      obtain ⟨y, e1⟩ : IntD (v 16) := hJ.have (k := 10) (by omega) hnd 9 (by omega) d9
      unfold actD
      go_simp
      refine hK.out _ _ ⟨updD v (slotD 10) (.int .i64 (IntKind.i64.wrap (1 + y))), (by simp [actD, updD, slotD, e1]), hJ.step (by omega) hi hnd hbt (World.grownBy.refl _ none) ⟨_, rfl⟩⟩
    refine ⟨?_, ?_⟩
    · rintro listed a w1 hi hnd hd ⟨v, rfl, hJ⟩ K hK
      unfold actD
      go_simp
      refine hK.out _ _ ⟨_, rfl, hJ.step (by omega) hi hnd hbt (World.grownBy_alloc _ _ none) (x := .slice (some ⟨w1.heap.size, 0, none⟩) 5 5) ⟨w1.heap.size, [0, 0, 1, 2, 5], rfl, rfl, heap_alloc_new _ _, hJ.1.size⟩⟩
    refine ⟨?_, ?_⟩
    · rintro listed a w1 hi hnd hd ⟨v, rfl, hJ⟩ K hK
      unfold actD
      go_simp
      refine hK.out _ _ ⟨_, rfl, hJ.step (by omega) hi hnd hbt (World.grownBy.refl _ none) (x := .pointer (some ⟨tb, 0, none⟩)) rfl⟩
    refine ⟨?_, ?_⟩
    · rintro listed a w1 hi hnd hd ⟨v, rfl, hJ⟩ K hK
      have hd' : depsF listed [{ on := 12, ground := .data }, { on := 9, ground := .chain }] := hd
      simp only [depsF, and_true] at hd'
      have d12 := hd'.1 (by rfl)
      have d9 := hd'.2 (by rfl)
      have e1 : v 19 = .pointer (some ⟨tb, 0, none⟩) := hJ.have (k := 13) (by omega) hnd 12 (by omega) d12
      obtain ⟨q, hc, q0⟩ := hJ.2.1
      have hq8 := cntD_le listed
      unfold actD
      go_simp
      refine (pick_of tb ao n cap q 5 zs w1 hc (by omega) (by omega) (by omega)).mono ?_
      rintro e w2 ⟨x, q', rfl, hx0, hx1, hc2, hq2, g2⟩
      obtain ⟨i, rfl⟩ := Int.eq_ofNat_of_zero_le hx0
      refine hK.out _ _ ⟨updD v (slotD 13) (.int .i64 i), (by simp [actD, updD, slotD, e1]), hJ.pick (by omega) hi hnd hbt g2 (x := .int .i64 i) ⟨i, rfl, by omega⟩ hc2 q0 hq2⟩
    refine ⟨?_, ?_⟩
    · rintro listed a w1 hi hnd hd ⟨v, rfl, hJ⟩ K hK
      have hd' : depsF listed [{ on := 11, ground := .data }, { on := 13, ground := .data }] := hd
      simp only [depsF, and_true] at hd'
      have d11 := hd'.1 (by rfl)
      have d13 := hd'.2 (by rfl)
      obtain ⟨g, cs, e1, hl, hb, hge⟩ : LitD wx.heap.size w1 (v 18) 5 := hJ.have (k := 14) (by omega) hnd 11 (by omega) d11
      obtain ⟨i, e2, hi3⟩ : LowD (v 20) 5 := hJ.have (k := 14) (by omega) hnd 13 (by omega) d13
      have hi3' : (i : Int) < 5 := by omega
      have hcell : w1.cell? ⟨g, i, none⟩ = some (.int .i64 (cs.getD i 0)) := by
        rw [cell_of_row w1 _ i _ _ (0, 0) hb]
        simp [show i < cs.length by omega]
      unfold actD
      go_simp
      refine hK.out _ _ ⟨updD v (slotD 14) (.pointer (some ⟨g, i, none⟩)), (by simp [actD, updD, slotD, e1, e2]), hJ.step (by omega) hi hnd hbt (World.grownBy.refl _ none) ⟨g, i, _, rfl, hcell, hge⟩⟩
    refine ⟨?_, ?_⟩
    · rintro listed a w1 hi hnd hd ⟨v, rfl, hJ⟩ K hK
      have hd' : depsF listed [{ on := 14, ground := .data }] := hd
      simp only [depsF, and_true] at hd'
      have d14 := hd' (by rfl)
      obtain ⟨g, i, y, e1, hcell, hge⟩ : PtrD wx.heap.size w1 (v 21) := hJ.have (k := 15) (by omega) hnd 14 (by omega) d14
      unfold actD
      go_simp
      refine hK.out _ _ ⟨updD v (slotD 15) (.int .i64 y), (by simp [actD, updD, slotD, e1]), hJ.step (by omega) hi hnd hbt (World.grownBy.refl _ none) ⟨y, rfl⟩⟩
    refine ⟨?_, ?_⟩
    · rintro listed a w1 hi hnd hd ⟨v, rfl, hJ⟩ K hK
      have hd' : depsF listed [{ on := 4, ground := .data }, { on := 7, ground := .data }, { on := 10, ground := .data }, { on := 15, ground := .data }] := hd
      simp only [depsF, and_true] at hd'
      obtain ⟨y0, e0⟩ : IntD (v 11) := hJ.have (k := 16) (by omega) hnd 4 (by omega) (hd'.1 (by rfl))
      obtain ⟨y1, e1⟩ : IntD (v 14) := hJ.have (k := 16) (by omega) hnd 7 (by omega) (hd'.2.1 (by rfl))
      obtain ⟨y2, e2⟩ : IntD (v 17) := hJ.have (k := 16) (by omega) hnd 10 (by omega) (hd'.2.2.1 (by rfl))
      obtain ⟨y3, e3⟩ : IntD (v 22) := hJ.have (k := 16) (by omega) hnd 15 (by omega) (hd'.2.2.2 (by rfl))
      unfold actD
      go_simp
      refine hK.out _ _ ⟨updD v (slotD 16) (.agg #[.int .i64 y0, .int .i64 y1, .int .i64 y2, .int .i64 y3, .slice none 0 0]), (by simp [actD, updD, slotD, e0, e1, e2, e3]), hJ.step (by omega) hi hnd hbt (World.grownBy.refl _ none) ⟨_, _, _, _, rfl⟩⟩
    refine ⟨?_, ?_⟩
    · rintro listed a w1 hi hnd hd ⟨v, rfl, hJ⟩ K hK
      unfold actD
      go_simp
      refine hK.out _ _ ⟨_, rfl, hJ.step (by omega) hi hnd hbt (World.grownBy_alloc _ _ none) (x := .pointer (some ⟨w1.heap.size, 0, none⟩)) ⟨w1.heap.size, _, _, _, _, rfl, heap_alloc_new _ _, hJ.1.size⟩⟩
    refine ⟨?_, trivial⟩
    rintro listed a w1 hi hnd hd ⟨v, rfl, hJ⟩ K hK
    have hall : ∀ j, j ≤ 17 → doneAt listed j := by
      intro j hj
      have hj' : j = 0 ∨ j = 1 ∨ j = 2 ∨ j = 3 ∨ j = 4 ∨ j = 5 ∨ j = 6 ∨ j = 7 ∨ j = 8 ∨ j = 9 ∨ j = 10 ∨ j = 11 ∨ j = 12 ∨ j = 13 ∨ j = 14 ∨ j = 15 ∨ j = 16 ∨ j = 17 := by omega
      rcases hj' with rfl | rfl | rfl | rfl | rfl | rfl | rfl | rfl | rfl | rfl | rfl | rfl | rfl | rfl | rfl | rfl | rfl | rfl <;> exact depsF_mem hd { on := _, ground := .phase } (by simp) rfl
    obtain ⟨g1, ⟨q, hc, q0⟩, ⟨h18, _⟩ | h3⟩ := hJ
    · exact absurd h18 hnd
    obtain ⟨g, p0, wd0, ht0, rs0, e3, hb, hge⟩ : FraD wx.heap.size w1 (v 3) := h3 17 (by omega) (hall 17 (by omega))
    obtain ⟨p1, wd1, ht1, rs1, e23⟩ : ∃ p wd ht rs : Int, v 23 = .agg #[.int .i64 p, .int .i64 wd, .int .i64 ht, .int .i64 rs, .slice none 0 0] := h3 16 (by omega) (hall 16 (by omega))
    rw [if_pos (by rfl)]
    refine wp_store_row 40 _ _ rfl g e3 _ e23 _ 40 hb rfl (by kernel_rfl) (one5 _ _ _ _ _ _ _) ?_
    intro w2 hb2 g2
    refine hK.out _ _ ⟨v, rfl, grown_tb g1 g2 (fun g' e => by simp at e; omega), ⟨q, hc.beside g2 (fun g' e => by simp at e; exact ⟨by omega, fun h b off e' => by have := unhide HC h b off e'; omega⟩), by have := cntD_mono hi; omega⟩, .inl ⟨(doneAt_set hi).2 (.inl rfl), ⟨g, _, _, _, _, e3, hb2, hge⟩, fun j hj => (doneAt_set hi).2 (.inr (hall j hj))⟩⟩

end Go.Proofs.Ytoeehfjbnbbijaa
