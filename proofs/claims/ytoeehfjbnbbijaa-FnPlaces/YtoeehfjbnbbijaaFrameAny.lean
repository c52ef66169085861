/-
  The walk of what draws a frame, and spoils one here and there.
-/
import Derived.Test.YtoeehfjbnbbijaaFrameDraw2
import Derived.Maps.AppendAt
namespace Go.Proofs.Ytoeehfjbnbbijaa
open Go.RowKit

theorem compFrame5 {w : World} {g : Nat} {a b c d v : Value} {t : TypeId} (hb : w.heap[g]? = some (.cells #[a, b, c, d, v] t (0, 0))) :
    w.cell? ⟨g, 0, none⟩ = some a ∧ w.cell? ⟨g, 1, none⟩ = some b ∧ w.cell? ⟨g, 2, none⟩ = some c ∧ w.cell? ⟨g, 3, none⟩ = some d ∧ w.cell? ⟨g, 4, none⟩ = some v :=
  ⟨by rw [cell_of_row w _ 0 _ _ (0, 0) hb]; rfl, by rw [cell_of_row w _ 1 _ _ (0, 0) hb]; rfl, by rw [cell_of_row w _ 2 _ _ (0, 0) hb]; rfl, by rw [cell_of_row w _ 3 _ _ (0, 0) hb]; rfl, by rw [cell_of_row w _ 4 _ _ (0, 0) hb]; rfl⟩

/-- What holds of the frame that is drawn and spoilt: its cells, those of the component that is looked at, the answer's, the row of components, the cursor. -/
structure BunA (wx : World) (tb g xb gb rb m bc : Nat) (ao : Option Addr) (n cap : Nat) (zs : List Int) (C : Nat → Nat → Int) (p0 wd0 ht0 rs0 x0 x1 x2 x3 : Int) (q : Nat) (W : World) : Prop where
  f : W.heap[g]? = some (.cells #[.int .i64 p0, .int .i64 wd0, .int .i64 ht0, .int .i64 rs0, .slice (some ⟨gb, 0, none⟩) m bc] 40 (0, 0))
  x : W.heap[xb]? = some (.cells #[.int .i64 x0, .int .i64 x1, .int .i64 x2, .int .i64 x3] 77 (0, 0))
  r : W.heap[rb]? = some (.cells #[.int .i64 0, .int .i64 0, .int .i64 0, .int .i64 0, .slice none 0 0] 40 (0, 0))
  o : W.ownsRow wx.heap.size 77 4 (.slice (some ⟨gb, 0, none⟩) m bc) m (rowsK m 4 (compCells C))
  c : Cur W tb ao n cap zs q
  grown : wx.grownBy W (some tb)

/-- How the blocks lie. -/
structure LieA (wx : World) (tb g xb gb rb : Nat) (ao : Option Addr) (n : Nat) : Prop where
  l1 : tb < rb
  l2 : rb < wx.heap.size
  l3 : wx.heap.size ≤ gb
  l4 : gb < g
  l5 : g < xb
  code : 0 < n → ∀ b off, ao = some ⟨b, off, none⟩ → b < rb

section
variable {wx : World} {tb g xb gb rb m bc : Nat} {ao : Option Addr} {n cap : Nat} {zs : List Int} {C : Nat → Nat → Int} {p0 wd0 ht0 rs0 x0 x1 x2 x3 : Int} {q : Nat} {W W' : World}

theorem BunA.pick (h : BunA wx tb g xb gb rb m bc ao n cap zs C p0 wd0 ht0 rs0 x0 x1 x2 x3 q W) (hl : LieA wx tb g xb gb rb ao n) {q' : Nat} (hc : Cur W' tb ao n cap zs q') (hg : W.grownBy W' (some tb)) : BunA wx tb g xb gb rb m bc ao n cap zs C p0 wd0 ht0 rs0 x0 x1 x2 x3 q' W' := by
  have l1 := hl.l1
  have l2 := hl.l2
  have l3 := hl.l3
  have l4 := hl.l4
  have l5 := hl.l5
  exact ⟨(hg.block g (Array.getElem?_eq_some_iff.1 h.f).1 (by simp; omega)).trans h.f, (hg.block xb (Array.getElem?_eq_some_iff.1 h.x).1 (by simp; omega)).trans h.x, (hg.block rb (Array.getElem?_eq_some_iff.1 h.r).1 (by simp; omega)).trans h.r,
    own_beneath h.o hg (fun g' t' e e' => by have := (h.o.lt g' e).1; simp at e'; omega), hc, grown_trans h.grown hg⟩
theorem BunA.new (h : BunA wx tb g xb gb rb m bc ao n cap zs C p0 wd0 ht0 rs0 x0 x1 x2 x3 q W) (hg : W.grownBy W' none) : BunA wx tb g xb gb rb m bc ao n cap zs C p0 wd0 ht0 rs0 x0 x1 x2 x3 q W' :=
  ⟨(hg.block g (Array.getElem?_eq_some_iff.1 h.f).1 (by simp)).trans h.f, (hg.block xb (Array.getElem?_eq_some_iff.1 h.x).1 (by simp)).trans h.x, (hg.block rb (Array.getElem?_eq_some_iff.1 h.r).1 (by simp)).trans h.r, own_grown h.o hg, h.c.grown hg, grown_tb h.grown hg (fun g e => by simp at e)⟩
theorem BunA.setF (h : BunA wx tb g xb gb rb m bc ao n cap zs C p0 wd0 ht0 rs0 x0 x1 x2 x3 q W) (hl : LieA wx tb g xb gb rb ao n) (j : Nat) (y p1 wd1 ht1 rs1 : Int)
    (e : (#[Value.int .i64 p0, .int .i64 wd0, .int .i64 ht0, .int .i64 rs0, .slice (some ⟨gb, 0, none⟩) m bc]).setIfInBounds j (.int .i64 y) = #[.int .i64 p1, .int .i64 wd1, .int .i64 ht1, .int .i64 rs1, .slice (some ⟨gb, 0, none⟩) m bc]) :
    BunA wx tb g xb gb rb m bc ao n cap zs C p1 wd1 ht1 rs1 x0 x1 x2 x3 q (W.setCell ⟨g, j, none⟩ (.int .i64 y)) := by
  have l1 := hl.l1
  have l2 := hl.l2
  have l3 := hl.l3
  have l4 := hl.l4
  have l5 := hl.l5
  have hs := grown_set W g j (.int .i64 y)
  refine ⟨?_, (hs.block xb (Array.getElem?_eq_some_iff.1 h.x).1 (by simp; omega)).trans h.x, (hs.block rb (Array.getElem?_eq_some_iff.1 h.r).1 (by simp; omega)).trans h.r, own_sameAt h.o (fun g' e => Below.heap_setCell _ _ _ _ ?_), h.c.beside hs (fun g' e => by simp at e; exact ⟨by omega, fun h b off e' => by have := hl.code h b off e'; omega⟩), grown_tb h.grown hs (fun g' e => by simp at e; omega)⟩
  · have := heap_setCell_same W g j _ _ (.int .i64 y) h.f
    rw [e] at this
    exact this
  · simp [Value.ownBlock] at e; show g' ≠ g; omega
theorem BunA.setX (h : BunA wx tb g xb gb rb m bc ao n cap zs C p0 wd0 ht0 rs0 x0 x1 x2 x3 q W) (hl : LieA wx tb g xb gb rb ao n) (j : Nat) (y y0 y1 y2 y3 : Int)
    (e : (#[Value.int .i64 x0, .int .i64 x1, .int .i64 x2, .int .i64 x3]).setIfInBounds j (.int .i64 y) = #[.int .i64 y0, .int .i64 y1, .int .i64 y2, .int .i64 y3]) :
    BunA wx tb g xb gb rb m bc ao n cap zs C p0 wd0 ht0 rs0 y0 y1 y2 y3 q (W.setCell ⟨xb, j, none⟩ (.int .i64 y)) := by
  have l1 := hl.l1
  have l2 := hl.l2
  have l3 := hl.l3
  have l4 := hl.l4
  have l5 := hl.l5
  have hs := grown_set W xb j (.int .i64 y)
  refine ⟨(hs.block g (Array.getElem?_eq_some_iff.1 h.f).1 (by simp; omega)).trans h.f, ?_, (hs.block rb (Array.getElem?_eq_some_iff.1 h.r).1 (by simp; omega)).trans h.r, own_sameAt h.o (fun g' e => Below.heap_setCell _ _ _ _ ?_), h.c.beside hs (fun g' e => by simp at e; exact ⟨by omega, fun h b off e' => by have := hl.code h b off e'; omega⟩), grown_tb h.grown hs (fun g' e => by simp at e; omega)⟩
  · have := heap_setCell_same W xb j _ _ (.int .i64 y) h.x
    rw [e] at this
    exact this
  · simp [Value.ownBlock] at e; show g' ≠ xb; omega
theorem BunA.free (h : BunA wx tb g xb gb rb m bc ao n cap zs C p0 wd0 ht0 rs0 x0 x1 x2 x3 q W) : (W.frozen? ⟨g, 0, none⟩ = false ∧ W.frozen? ⟨g, 1, none⟩ = false ∧ W.frozen? ⟨g, 2, none⟩ = false ∧ W.frozen? ⟨g, 3, none⟩ = false) ∧ W.frozen? ⟨xb, 0, none⟩ = false ∧ W.frozen? ⟨xb, 1, none⟩ = false ∧ W.frozen? ⟨xb, 2, none⟩ = false ∧ W.frozen? ⟨xb, 3, none⟩ = false :=
  ⟨⟨frozen_of_row W g 0 _ _ h.f, frozen_of_row W g 1 _ _ h.f, frozen_of_row W g 2 _ _ h.f, frozen_of_row W g 3 _ _ h.f⟩, frozen_of_row W xb 0 _ _ h.x, frozen_of_row W xb 1 _ _ h.x, frozen_of_row W xb 2 _ _ h.x, frozen_of_row W xb 3 _ _ h.x⟩
theorem pushC_set (C : Nat → Nat → Int) (m k : Nat) (y0 y1 y2 y3 : Int) :
    ((((rowsK m 4 (compCells C)).set (k * 4) (.int .i64 y0)).set (k * 4 + 1) (.int .i64 y1)).set (k * 4 + 2) (.int .i64 y2)).set (k * 4 + 3) (.int .i64 y3) = rowsK m 4 (compCells (pushC C k y0 y1 y2 y3)) := by
  have e0 := rowsK_set m 4 (compCells C) k 0 (.int .i64 y0) (by omega)
  rw [Nat.add_zero] at e0
  rw [e0, rowsK_set _ _ _ k 1 _ (by omega), rowsK_set _ _ _ k 2 _ (by omega), rowsK_set _ _ _ k 3 _ (by omega)]
  apply rowsK_congr
  intro i j _ hj
  have hj4 : j = 0 ∨ j = 1 ∨ j = 2 ∨ j = 3 := by omega
  by_cases e1 : i = k
  · subst e1
    rcases hj4 with rfl | rfl | rfl | rfl <;> simp [compCells, pushC]
  · rcases hj4 with rfl | rfl | rfl | rfl <;> simp [compCells, pushC, e1]

theorem BunA.row (h : BunA wx tb g xb gb rb m bc ao n cap zs C p0 wd0 ht0 rs0 x0 x1 x2 x3 q W) (hl : LieA wx tb g xb gb rb ao n) (k : Nat) :
    BunA wx tb g xb gb rb m bc ao n cap zs (pushC C k x0 x1 x2 x3) p0 wd0 ht0 rs0 x0 x1 x2 x3 q ((((W.setCell ⟨gb, k * 4, none⟩ (.int .i64 x0)).setCell ⟨gb, k * 4 + 1, none⟩ (.int .i64 x1)).setCell ⟨gb, k * 4 + 2, none⟩ (.int .i64 x2)).setCell ⟨gb, k * 4 + 3, none⟩ (.int .i64 x3)) := by
  have l1 := hl.l1
  have l2 := hl.l2
  have l3 := hl.l3
  have l4 := hl.l4
  have l5 := hl.l5
  have s0 := h.o.stored (k * 4) (.int .i64 x0)
  have s1 := s0.1.stored (k * 4 + 1) (.int .i64 x1)
  have s2 := s1.1.stored (k * 4 + 2) (.int .i64 x2)
  have s3 := s2.1.stored (k * 4 + 3) (.int .i64 x3)
  have hs := grown_trans (grown_trans (grown_trans s0.2 s1.2) s2.2) s3.2
  have ho := s3.1
  rw [pushC_set] at ho
  exact ⟨(hs.block g (Array.getElem?_eq_some_iff.1 h.f).1 (by simp; omega)).trans h.f, (hs.block xb (Array.getElem?_eq_some_iff.1 h.x).1 (by simp; omega)).trans h.x, (hs.block rb (Array.getElem?_eq_some_iff.1 h.r).1 (by simp; omega)).trans h.r, ho,
    h.c.beside hs (fun g' e => by simp at e; exact ⟨by omega, fun h b off e' => by have := hl.code h b off e'; omega⟩), grown_tb h.grown hs (fun g' e => by simp at e; omega)⟩

/-- The answer's cells are written: the rest stays. -/
theorem finA {w : World} {v : Value} {k : Nat} (htb : tb < w.heap.size) (hcode : 0 < n → ∀ b off, ao = some ⟨b, off, none⟩ → b < w.heap.size) (hbase : w.heap.size < wx.heap.size) (h1 : W.ownsRow wx.heap.size 77 4 v k (rowsK k 4 (compCells C))) (h2 : Cur W tb ao n cap zs q) (h3 : w.grownBy W (some tb)) (a b c d e : Value) :
    (((((W.setCell ⟨w.heap.size, 0, none⟩ a).setCell ⟨w.heap.size, 1, none⟩ b).setCell ⟨w.heap.size, 2, none⟩ c).setCell ⟨w.heap.size, 3, none⟩ d).setCell ⟨w.heap.size, 4, none⟩ e).ownsRow w.heap.size 77 4 v k (rowsK k 4 (compCells C)) ∧
    Cur (((((W.setCell ⟨w.heap.size, 0, none⟩ a).setCell ⟨w.heap.size, 1, none⟩ b).setCell ⟨w.heap.size, 2, none⟩ c).setCell ⟨w.heap.size, 3, none⟩ d).setCell ⟨w.heap.size, 4, none⟩ e) tb ao n cap zs q ∧
    w.grownBy (((((W.setCell ⟨w.heap.size, 0, none⟩ a).setCell ⟨w.heap.size, 1, none⟩ b).setCell ⟨w.heap.size, 2, none⟩ c).setCell ⟨w.heap.size, 3, none⟩ d).setCell ⟨w.heap.size, 4, none⟩ e) (some tb) := by
  have hs := grown_trans (grown_trans (grown_trans (grown_trans (grown_set W w.heap.size 0 a) (grown_set _ w.heap.size 1 b)) (grown_set _ w.heap.size 2 c)) (grown_set _ w.heap.size 3 d)) (grown_set _ w.heap.size 4 e)
  refine ⟨own_base (own_beneath h1 hs (fun g' t' e e' => by have := (h1.lt g' e).1; simp at e'; omega)) (by omega), h2.beside hs (fun g' e => by simp at e; exact ⟨by omega, fun h b off e' => by have := hcode h b off e'; omega⟩), grown_tb h3 hs (fun g' e => by simp at e; omega)⟩
end

set_option maxRecDepth 20000 in
set_option maxHeartbeats 3200000 in
theorem drawAny (tb : Nat) (ao : Option Addr) (n cap p : Nat) (zs : List Int) (w : World) (h : Cur w tb ao n cap zs p) (hp : p ≤ 1000000) (hcode : 0 < n → ∀ b off, ao = some ⟨b, off, none⟩ → b < w.heap.size) (kk : Int) (hk2 : 2 ≤ kk) (hk3 : kk ≤ 2147483648) :
    Calls Try.prog 45 #[.pointer (some ⟨tb, 0, none⟩), .int .i64 kk] w fun e w' => ∃ (p0 wd0 ht0 rs0 : Int) (C : Nat → Nat → Int) (m bc q' : Nat) (bo : Option Addr), e = .returned (.agg #[.int .i64 p0, .int .i64 wd0, .int .i64 ht0, .int .i64 rs0, .slice bo m bc]) ∧ 1 ≤ m ∧ m ≤ 5 ∧
      w'.ownsRow w.heap.size 77 4 (.slice bo m bc) m (rowsK m 4 (compCells C)) ∧ Cur w' tb ao n cap zs q' ∧ q' ≤ p + 150 ∧ w.grownBy w' (some tb) := by
  have htb : tb < w.heap.size := h.lt
  have H := hide h
  have HC := hide hcode
  clear hcode
  clear h
  have G0 : Hid (w.grownBy (w.alloc (.cells #[.int .i64 0, .int .i64 0, .int .i64 0, .int .i64 0, .slice none 0 0] 40)) none) := grown_alloc (World.grownBy.refl _ _) _
  have HB0 := hide (heap_alloc_new w (.cells #[.int .i64 0, .int .i64 0, .int .i64 0, .int .i64 0, .slice none 0 0] 40))
  have hgs : w.heap.size < (w.alloc (.cells #[.int .i64 0, .int .i64 0, .int .i64 0, .int .i64 0, .slice none 0 0] 40)).heap.size := by simp
  go_enter Try.func45, Try.ntmps45
  go_wp2_with fail
  generalize (w.alloc (.cells #[.int .i64 0, .int .i64 0, .int .i64 0, .int .i64 0, .slice none 0 0] 40)) = wx at *
  have HX := hide ((unhide H).grown (unhide G0))
  have hbt : tb < wx.heap.size := by omega
  have HC2 : Hid (0 < n → ∀ b off, ao = some ⟨b, off, none⟩ → b < wx.heap.size) := fun h b off e => by have := unhide HC h b off e; omega
  refine (drawFrame tb ao n cap p zs wx (unhide HX) hp (unhide HC2)).mono ?_
  rintro e w1 ⟨p0, wd0, ht0, rs0, C, m, bc, q1, bo, rfl, hm1, hm4, o1, c1, hq1, g1⟩
  obtain ⟨gb, rfl, hgb0, hgb1⟩ := own_at o1 (by omega)
  have hB1 := (g1.block w.heap.size hgs (by simp; omega)).trans (unhide HB0)
  obtain ⟨w2, hw2⟩ : ∃ w2, w1.alloc (.cells #[.int .i64 p0, .int .i64 wd0, .int .i64 ht0, .int .i64 rs0, .slice (some ⟨gb, 0, none⟩) m bc] 40) = w2 := ⟨_, rfl⟩
  have g2 : w1.grownBy w2 none := by rw [← hw2]; exact grown_alloc (World.grownBy.refl _ _) _
  have hF2 : w2.heap[w1.heap.size]? = some (.cells #[.int .i64 p0, .int .i64 wd0, .int .i64 ht0, .int .i64 rs0, .slice (some ⟨gb, 0, none⟩) m bc] 40 (0, 0)) := by rw [← hw2]; exact heap_alloc_new _ _
  have o2 := own_grown o1 g2
  have c2 := c1.grown g2
  have hB2 := (g2.block w.heap.size (by have := g1.size; omega) (by simp)).trans hB1
  have G2 := grown_tb g1 g2 (fun g e => by simp at e)
  have hs1 := g1.size
  have HW2 := hide hw2
  clear hw2 o1 c1 hB1 g1 g2
  go_wp2_with fail
  rw [unhide HW2]
  refine (once_of tb ao n cap q1 kk zs w2 c2 (by omega) hk2 hk3).mono ?_
  rintro e w3 ⟨t, q3, rfl, c3, hq3, g3⟩
  have hlt2 := (Array.getElem?_eq_some_iff.1 hF2).1
  have hF3 := (g3.block w1.heap.size hlt2 (by simp; omega)).trans hF2
  have hB3 := (g3.block w.heap.size (by omega) (by simp; omega)).trans hB2
  have o3 := own_beneath o2 g3 (fun g g' h h' => by have := (o2.lt g h).1; simp at h'; omega)
  have G3 := grown_trans G2 g3
  have hs3 := g3.size
  clear hF2 hB2 o2 c2 G2 g3 HW2
  cases t
  · have kf := frameCells5 hF3
    have kr := frameCells5 hB3
    have fr := frameFree hB3
    have hner : ¬ w1.heap.size = w.heap.size := by omega
    have hner2 : ¬ w.heap.size = w1.heap.size := by omega
    have FIN := hide (fun a b c d e => finA htb (unhide HC) hgs o3 c3 (grown_trans (grown_weak (unhide G0)) G3) a b c d e)
    clear hF3 hB3 o3 c3 G3
    go_wp2
    refine bodyPost_ret (v := .agg #[.int .i64 p0, .int .i64 wd0, .int .i64 ht0, .int .i64 rs0, .slice (some ⟨gb, 0, none⟩) m bc]) (by simp [results, Try.results45, go_sem, *]) rfl ?_
    obtain ⟨z1, z2, z3⟩ := unhide FIN (.int .i64 p0) (.int .i64 wd0) (.int .i64 ht0) (.int .i64 rs0) (.slice (some ⟨gb, 0, none⟩) m bc)
    exact ⟨p0, wd0, ht0, rs0, C, m, _, q3, _, rfl, by omega, by omega, z1, z2, by omega, z3⟩
  · obtain ⟨_, _, _, _, f4⟩ := compFrame5 hF3
    go_wp2_with fail
    refine (pick_any tb ao n cap q3 m zs w3 c3 (by omega) (by omega) (by omega)).mono ?_
    rintro e w4 ⟨x4, q4, rfl, hx0, hx1, c4, hq4, g4⟩
    obtain ⟨k, rfl⟩ := Int.eq_ofNat_of_zero_le hx0
    have hk : k < m := by omega
    have hF4 := (g4.block w1.heap.size (by omega) (by simp; omega)).trans hF3
    have hB4 := (g4.block w.heap.size (by omega) (by simp; omega)).trans hB3
    have o4 := own_beneath o3 g4 (fun g g' h h' => by have := (o3.lt g h).1; simp at h'; omega)
    have G4 := grown_trans G3 g4
    have hs4 := g4.size
    clear hF3 hB3 o3 c3 G3 g4 f4 hx0
    obtain ⟨_, _, _, _, f4⟩ := compFrame5 hF4
    have r4 := (own_rdC o4) k hk
    obtain ⟨gb', off', e', hcell⟩ := r4
    simp at e'
    obtain ⟨rfl, rfl⟩ := e'
    have x0 := hcell 0 (by omega)
    have x1 := hcell 1 (by omega)
    have x2 := hcell 2 (by omega)
    have x3 := hcell 3 (by omega)
    rw [Nat.add_zero] at x0
    clear hcell
    simp only [Nat.zero_add] at x0 x1 x2 x3
    obtain ⟨w5, hw5⟩ : ∃ w5, w4.alloc (.cells #[.int .i64 (C k 0), .int .i64 (C k 1), .int .i64 (C k 2), .int .i64 (C k 3)] 77) = w5 := ⟨_, rfl⟩
    have g5 : w4.grownBy w5 none := by rw [← hw5]; exact grown_alloc (World.grownBy.refl _ _) _
    have hX5 : w5.heap[w4.heap.size]? = some (.cells #[.int .i64 (C k 0), .int .i64 (C k 1), .int .i64 (C k 2), .int .i64 (C k 3)] 77 (0, 0)) := by rw [← hw5]; exact heap_alloc_new _ _
    have HW5 := hide hw5
    clear hw5
    go_wp2_with fail
    rw [unhide HW5]
    have o5 := own_grown o4 g5
    have c5 := c4.grown g5
    have hF5 := (g5.block w1.heap.size (by omega) (by simp)).trans hF4
    have hB5 := (g5.block w.heap.size (by omega) (by simp)).trans hB4
    have G5 := grown_tb G4 g5 (fun g e => by simp at e)
    have LIE : LieA wx tb w1.heap.size w4.heap.size gb w.heap.size ao n := ⟨htb, hgs, hgb0, hgb1, by omega, unhide HC⟩
    have B5 : BunA wx tb w1.heap.size w4.heap.size gb w.heap.size m bc ao n cap zs C p0 wd0 ht0 rs0 (C k 0) (C k 1) (C k 2) (C k 3) q4 w5 := ⟨hF5, hX5, hB5, o5, c5, G5⟩
    have hl5 := LIE.l5
    have HB5 := hide B5
    clear o5 hF5 hB5 G5 o4 hF4 hB4 G4 hX5 HW5 f4 x0 x1 x2 x3 c4 g5 B5
    rename_i Ko ako Km akm Ks aks
    have cont : ∀ {u8 u9 u10 u11 u12 u13 u14 u15 u16 u17 u18 u19 u20 u21 u22 u23 u24 u25 u26 u27 u28 u29 u30 u31 u32 u33 u34 u35 u36 u37 u38 u39 u40 u41 u42 u43 u44 u45 u46 u47 u48 u49 u50 u51 u52 u53 u54 u55 u56 u57 u58 u59 u60 u61 u62 u63 u64 u65 u66 u67 u68 u69 u70 u71 u72 u73 u74 u75 u76 u77 u78 u79 u80 u81 u82 u83 u84 u85 u86 u87 : Value} {W : World} {p0 wd0 ht0 rs0 x0 x1 x2 x3 : Int} {q : Nat}, BunA wx tb w1.heap.size w4.heap.size gb w.heap.size m bc ao n cap zs C p0 wd0 ht0 rs0 x0 x1 x2 x3 q W → q ≤ p + 130 → Ko { tmps := List.toArray (Value.pointer (some ⟨tb, 0, none⟩) :: Value.int .i64 kk :: undef :: undef :: Value.pointer (some ⟨w.heap.size, 0, none⟩) :: Value.pointer (some ⟨w1.heap.size, 0, none⟩) :: Value.int .i64 k :: Value.pointer (some ⟨w4.heap.size, 0, none⟩) :: u8 :: u9 :: u10 :: u11 :: u12 :: u13 :: u14 :: u15 :: u16 :: u17 :: u18 :: u19 :: u20 :: u21 :: u22 :: u23 :: u24 :: u25 :: u26 :: u27 :: u28 :: u29 :: u30 :: u31 :: u32 :: u33 :: u34 :: u35 :: u36 :: u37 :: u38 :: u39 :: u40 :: u41 :: u42 :: u43 :: u44 :: u45 :: u46 :: u47 :: u48 :: u49 :: u50 :: u51 :: u52 :: u53 :: u54 :: u55 :: u56 :: u57 :: u58 :: u59 :: u60 :: u61 :: u62 :: u63 :: u64 :: u65 :: u66 :: u67 :: u68 :: u69 :: u70 :: u71 :: u72 :: u73 :: u74 :: u75 :: u76 :: u77 :: u78 :: u79 :: u80 :: u81 :: u82 :: u83 :: u84 :: u85 :: u86 :: u87 :: undef :: undef :: undef :: undef :: undef :: undef :: undef :: undef :: undef :: undef :: undef :: undef :: undef :: undef :: []), defers := [] } W := by
      clear HB5 c5 akm aks
      intro u8 u9 u10 u11 u12 u13 u14 u15 u16 u17 u18 u19 u20 u21 u22 u23 u24 u25 u26 u27 u28 u29 u30 u31 u32 u33 u34 u35 u36 u37 u38 u39 u40 u41 u42 u43 u44 u45 u46 u47 u48 u49 u50 u51 u52 u53 u54 u55 u56 u57 u58 u59 u60 u61 u62 u63 u64 u65 u66 u67 u68 u69 u70 u71 u72 u73 u74 u75 u76 u77 u78 u79 u80 u81 u82 u83 u84 u85 u86 u87 W p0 wd0 ht0 rs0 x0 x1 x2 x3 q B hq
      refine ako _ _ ?_
      clear ako
      have hk4 : k * 4 + 3 < m * 4 := by omega
      have kF := frameCells5 B.f
      have kX := compCells4 B.x
      have z0 := B.o.frozenAt (k * 4)
      have z1 := B.o.frozenAt (k * 4 + 1)
      have z2 := B.o.frozenAt (k * 4 + 2)
      have z3 := B.o.frozenAt (k * 4 + 3)
      have hold : ∀ j, j < m * 4 → ∃ u, W.cell? ⟨gb, j, none⟩ = some u := fun j hj => by rw [B.o.cellAt j hj]; exact ⟨_, List.getElem?_eq_getElem (by rw [B.o.1]; omega)⟩
      obtain ⟨v0, hv0⟩ := hold (k * 4) (by omega)
      obtain ⟨v1, hv1⟩ := hold (k * 4 + 1) (by omega)
      obtain ⟨v2, hv2⟩ := hold (k * 4 + 2) (by omega)
      obtain ⟨v3, hv3⟩ := hold (k * 4 + 3) (by omega)
      have B1 := B.row LIE k
      obtain ⟨W1, hW1⟩ : ∃ W1, ((((W.setCell ⟨gb, k * 4, none⟩ (.int .i64 x0)).setCell ⟨gb, k * 4 + 1, none⟩ (.int .i64 x1)).setCell ⟨gb, k * 4 + 2, none⟩ (.int .i64 x2)).setCell ⟨gb, k * 4 + 3, none⟩ (.int .i64 x3)) = W1 := ⟨_, rfl⟩
      rw [hW1] at B1
      have HW1 := hide hW1
      clear hW1 B hold
      go_wp2_with fail
      rw [unhide HW1]
      clear kF kX z0 z1 z2 z3 hv0 hv1 hv2 hv3 HW1
      refine (once_of tb ao n cap q 5 zs W1 B1.c (by omega) (by omega) (by omega)).mono ?_
      rintro e W2 ⟨t, q2, rfl, c2, hq2, g2⟩
      have B2 := B1.pick LIE c2 g2
      clear B1 g2
      generalize pushC C k x0 x1 x2 x3 = D at *
      have hF := B2.f
      have hR := B2.r
      have GW : w.grownBy W2 (some tb) := grown_trans (grown_weak (unhide G0)) B2.grown
      cases t
      · have kf := frameCells5 hF
        have kr := frameCells5 hR
        have fr := frameFree hR
        have hner : ¬ w1.heap.size = w.heap.size := by omega
        have hner2 : ¬ w.heap.size = w1.heap.size := by omega
        have FIN := hide (fun a b c d e => finA htb (unhide HC) hgs B2.o B2.c GW a b c d e)
        clear hF hR c2 GW B2
        go_wp2
        refine bodyPost_ret (v := .agg #[.int .i64 p0, .int .i64 wd0, .int .i64 ht0, .int .i64 rs0, .slice (some ⟨gb, 0, none⟩) m bc]) (by simp [results, Try.results45, go_sem, *]) rfl ?_
        obtain ⟨z1, z2, z3⟩ := unhide FIN (.int .i64 p0) (.int .i64 wd0) (.int .i64 ht0) (.int .i64 rs0) (.slice (some ⟨gb, 0, none⟩) m bc)
        exact ⟨p0, wd0, ht0, rs0, D, m, _, q2, _, rfl, by omega, by omega, z1, z2, by omega, z3⟩
      · obtain ⟨ic, hic, hz0, hz1, hz2⟩ := info_parts Try.info77
        have kf := frameCells5 hF
        have kx := compCells4 B2.x
        have hsz2 := (Array.getElem?_eq_some_iff.1 B2.x).1
        have BU := hide B2
        clear hF hR c2 GW B2
        go_wp2_with (at_builtin; refine wpList_append_own_at _ rfl _ _ 38 rfl wx.heap.size 77 ic _ 4 32 Try.underlying38 hic hz0 hz1 hz2 rfl (by decide) (.slice (some ⟨gb, 0, none⟩) m bc) m (rowsK m 4 (compCells D)) rfl ((unhide BU).o.alloc _) ⟨W2.heap.size, 0, none⟩ 1 1 [.int .i64 x0, .int .i64 x1, .int .i64 x2, .int .i64 x3] rfl rfl ?n1 ?n2 ?n3 ?n4 ?n5 ?_)
        case n1 => exact World.news_of_block (cs := #[.int .i64 x0, .int .i64 x1, .int .i64 x2, .int .i64 x3]) (t := 77) (fr := (0, 0)) (heap_alloc_new W2 _)
        case n2 => intro u hu; simp at hu; rcases hu with rfl | rfl | rfl | rfl <;> rfl
        case n3 => unfold maxLen; omega
        case n4 => omega
        case n5 => simp; have := LIE.l3; have := LIE.l4; omega
        intro v8 w8 hown8 hgrow8 _ hat8
        have B2 := unhide BU
        clear BU kf kx
        have A6 : W2.grownBy (W2.alloc (.cells #[.int .i64 x0, .int .i64 x1, .int .i64 x2, .int .i64 x3] 77)) none := World.grownBy_alloc _ _ _
        have hol : ∀ g', (Value.slice (some ⟨gb, 0, none⟩) m bc).ownBlock = some g' → g' = gb := fun g' e => by simp [Value.ownBlock] at e; omega
        have l4 := LIE.l4
        have l3 := LIE.l3
        have hgl6 := (Array.getElem?_eq_some_iff.1 B2.f).1
        have hgr6 := (Array.getElem?_eq_some_iff.1 B2.r).1
        have hb8 := (hgrow8.block w1.heap.size (Nat.lt_of_lt_of_le hgl6 A6.size) (fun e => by have := hol _ e.symm; omega)).trans ((A6.block w1.heap.size hgl6 (by simp)).trans B2.f)
        have hr8 := (hgrow8.block w.heap.size (Nat.lt_of_lt_of_le hgr6 A6.size) (fun e => by have := hol _ e.symm; omega)).trans ((A6.block w.heap.size hgr6 (by simp)).trans B2.r)
        have hc8 := (B2.c.grown A6).beside hgrow8 (fun g' e => by have := hol g' e; exact ⟨by omega, fun h b off e' => by have := unhide HC h b off e'; omega⟩)
        have G8 := grown_tb (grown_tb B2.grown A6 (fun g' e => by simp at e)) hgrow8 (fun g' e => by have := hol g' e; omega)
        have O8 := own_as4 hown8 (n' := m + 1) rfl (rowsK_push D m x0 x1 x2 x3)
        obtain ⟨so8, sc8, hv8⟩ := own_form O8
        subst hv8
        have k8 := frameCells5 hb8
        have l8 := frameFree hb8
        have hs9 := grown_set w8 w1.heap.size 4 (.slice so8 (m + 1) sc8)
        have G9 := grown_trans (grown_weak (unhide G0)) (grown_tb G8 hs9 (fun g' e => by simp at e; omega))
        have hc9 := hc8.beside hs9 (fun g' e => by simp at e; exact ⟨by omega, fun h b off e' => by have := unhide HC h b off e'; omega⟩)
        have O9 : (w8.setCell ⟨w1.heap.size, 4, none⟩ (.slice so8 (m + 1) sc8)).ownsRow wx.heap.size 77 4 (.slice so8 (m + 1) sc8) (m + 1) (rowsK (m + 1) 4 (compCells (pushC D m x0 x1 x2 x3))) := by
          refine own_beneath O8 hs9 (fun g' t' e e' => ?_)
          simp at e'
          subst e'
          intro e2
          subst e2
          rcases hat8 with h | h
          · rw [h] at e; simp [Value.ownBlock] at e; omega
          · rw [h] at e; simp at e; omega
        have kr := frameCells5 hr8
        have fr := frameFree hr8
        have hner : ¬ w1.heap.size = w.heap.size := by omega
        have hner2 : ¬ w.heap.size = w1.heap.size := by omega
        have FIN := hide (fun a b c d e => finA htb (unhide HC) hgs O9 hc9 G9 a b c d e)
        clear hs9 G9 hc9 O9 hown8 hgrow8 A6 hb8 hc8 G8 O8 B2 hr8 hol hat8
        go_wp2
        refine bodyPost_ret (v := .agg #[.int .i64 p0, .int .i64 wd0, .int .i64 ht0, .int .i64 rs0, .slice so8 (m + 1) sc8]) (by simp [results, Try.results45, go_sem, *]) rfl ?_
        obtain ⟨z1, z2, z3⟩ := unhide FIN (.int .i64 p0) (.int .i64 wd0) (.int .i64 ht0) (.int .i64 rs0) (.slice so8 (m + 1) sc8)
        exact ⟨p0, wd0, ht0, rs0, (pushC D m x0 x1 x2 x3), (m + 1), _, q2, _, rfl, by omega, by omega, z1, z2, by omega, z3⟩
    clear ako
    refine (pick_of tb ao n cap q4 9 zs w5 c5 (by omega) (by omega) (by omega)).mono ?_
    rintro e w6 ⟨x6, q6, rfl, hx60, hx61, c6, hq6, g6⟩
    have B6 := (unhide HB5).pick LIE c6 g6
    clear HB5 c5 g6
    have hcases : x6 = 0 ∨ x6 = 1 ∨ x6 = 2 ∨ x6 = 3 ∨ x6 = 4 ∨ x6 = 5 ∨ x6 = 6 ∨ x6 = 7 ∨ x6 = 8 := by omega
    generalize C k 0 = y0 at *
    generalize C k 1 = y1 at *
    generalize C k 2 = y2 at *
    generalize C k 3 = y3 at *
    rcases hcases with rfl | rfl | rfl | rfl | rfl | rfl | rfl | rfl | rfl
    · go_wp2_with fail
      refine (odd_of tb ao n cap q6 zs w6 c6 (by omega)).mono ?_
      rintro e w7 ⟨y, q7, rfl, c7, hq7, g7⟩
      have B7 := B6.pick LIE c7 g7
      obtain ⟨fF, fX⟩ := B7.free
      have kF := frameCells5 B7.f
      have HB7 := hide B7
      clear B6 B7 c6 c7 g7
      go_wp2
      exact cont ((unhide HB7).setF LIE 0 y _ _ _ _ rfl) (by omega)
    · go_wp2_with fail
      refine (odd_of tb ao n cap q6 zs w6 c6 (by omega)).mono ?_
      rintro e w7 ⟨y, q7, rfl, c7, hq7, g7⟩
      have B7 := B6.pick LIE c7 g7
      obtain ⟨w8, hw8⟩ : ∃ w8, w7.alloc (.cells #[.int .i64 0, .int .i64 256, .int .i64 257, .int .i64 y] 3) = w8 := ⟨_, rfl⟩
      have g8 : w7.grownBy w8 none := by rw [← hw8]; exact grown_alloc (World.grownBy.refl _ _) _
      have hL8 : w8.heap[w7.heap.size]? = some (.cells #[.int .i64 0, .int .i64 256, .int .i64 257, .int .i64 y] 3 (0, 0)) := by rw [← hw8]; exact heap_alloc_new _ _
      have B8 := B7.new g8
      have HW8 := hide hw8
      clear hw8 B6 B7 c6 g7 g8
      go_wp2_with fail
      rw [unhide HW8]
      refine (pick_of tb ao n cap q7 4 zs w8 B8.c (by omega) (by omega) (by omega)).mono ?_
      rintro e w9 ⟨x9, q9, rfl, hx90, hx91, c9, hq9, g9⟩
      obtain ⟨i9, rfl⟩ := Int.eq_ofNat_of_zero_le hx90
      have B9 := B8.pick LIE c9 g9
      have hL9 := (g9.block w7.heap.size (Array.getElem?_eq_some_iff.1 hL8).1 (by simp; have := c7.lt; omega)).trans hL8
      obtain ⟨y9, hy9⟩ : ∃ y9 : Int, w9.cell? ⟨w7.heap.size, i9, none⟩ = some (.int .i64 y9) := by
        rw [cell_of_row w9 _ i9 _ _ (0, 0) hL9]
        have : i9 = 0 ∨ i9 = 1 ∨ i9 = 2 ∨ i9 = 3 := by omega
        rcases this with rfl | rfl | rfl | rfl <;> exact ⟨_, rfl⟩
      obtain ⟨fF, fX⟩ := B9.free
      have kF := frameCells5 B9.f
      have HB9 := hide B9
      clear B8 B9 c7 c9 g9 hL8 hL9 HW8
      go_wp2
      exact cont ((unhide HB9).setF LIE 1 y9 _ _ _ _ rfl) (by omega)
    · go_wp2_with fail
      refine (odd_of tb ao n cap q6 zs w6 c6 (by omega)).mono ?_
      rintro e w7 ⟨y, q7, rfl, c7, hq7, g7⟩
      have B7 := B6.pick LIE c7 g7
      obtain ⟨w8, hw8⟩ : ∃ w8, w7.alloc (.cells #[.int .i64 0, .int .i64 256, .int .i64 257, .int .i64 y] 3) = w8 := ⟨_, rfl⟩
      have g8 : w7.grownBy w8 none := by rw [← hw8]; exact grown_alloc (World.grownBy.refl _ _) _
      have hL8 : w8.heap[w7.heap.size]? = some (.cells #[.int .i64 0, .int .i64 256, .int .i64 257, .int .i64 y] 3 (0, 0)) := by rw [← hw8]; exact heap_alloc_new _ _
      have B8 := B7.new g8
      have HW8 := hide hw8
      clear hw8 B6 B7 c6 g7 g8
      go_wp2_with fail
      rw [unhide HW8]
      refine (pick_of tb ao n cap q7 4 zs w8 B8.c (by omega) (by omega) (by omega)).mono ?_
      rintro e w9 ⟨x9, q9, rfl, hx90, hx91, c9, hq9, g9⟩
      obtain ⟨i9, rfl⟩ := Int.eq_ofNat_of_zero_le hx90
      have B9 := B8.pick LIE c9 g9
      have hL9 := (g9.block w7.heap.size (Array.getElem?_eq_some_iff.1 hL8).1 (by simp; have := c7.lt; omega)).trans hL8
      obtain ⟨y9, hy9⟩ : ∃ y9 : Int, w9.cell? ⟨w7.heap.size, i9, none⟩ = some (.int .i64 y9) := by
        rw [cell_of_row w9 _ i9 _ _ (0, 0) hL9]
        have : i9 = 0 ∨ i9 = 1 ∨ i9 = 2 ∨ i9 = 3 := by omega
        rcases this with rfl | rfl | rfl | rfl <;> exact ⟨_, rfl⟩
      obtain ⟨fF, fX⟩ := B9.free
      have kF := frameCells5 B9.f
      have HB9 := hide B9
      clear B8 B9 c7 c9 g9 hL8 hL9 HW8
      go_wp2
      exact cont ((unhide HB9).setF LIE 2 y9 _ _ _ _ rfl) (by omega)
    · go_wp2_with fail
      refine (odd_of tb ao n cap q6 zs w6 c6 (by omega)).mono ?_
      rintro e w7 ⟨y, q7, rfl, c7, hq7, g7⟩
      have B7 := B6.pick LIE c7 g7
      obtain ⟨fF, fX⟩ := B7.free
      have kF := frameCells5 B7.f
      have HB7 := hide B7
      clear B6 B7 c6 c7 g7
      go_wp2
      exact cont ((unhide HB7).setF LIE 3 y _ _ _ _ rfl) (by omega)
    · go_wp2_with fail
      refine (odd_of tb ao n cap q6 zs w6 c6 (by omega)).mono ?_
      rintro e w7 ⟨y, q7, rfl, c7, hq7, g7⟩
      have B7 := B6.pick LIE c7 g7
      obtain ⟨fF, fX⟩ := B7.free
      have kF := compCells4 B7.x
      have HB7 := hide B7
      clear B6 B7 c6 c7 g7
      go_wp2
      exact cont ((unhide HB7).setX LIE 0 y _ _ _ _ rfl) (by omega)
    · go_wp2_with fail
      refine (odd_of tb ao n cap q6 zs w6 c6 (by omega)).mono ?_
      rintro e w7 ⟨y, q7, rfl, c7, hq7, g7⟩
      have B7 := B6.pick LIE c7 g7
      obtain ⟨fF, fX⟩ := B7.free
      have kF := compCells4 B7.x
      have HB7 := hide B7
      clear B6 B7 c6 c7 g7
      go_wp2
      exact cont ((unhide HB7).setX LIE 1 y _ _ _ _ rfl) (by omega)
    · obtain ⟨w8, hw8⟩ : ∃ w8, w6.alloc (.cells #[.int .i64 0, .int .i64 4, .int .i64 5] 3) = w8 := ⟨_, rfl⟩
      have g8 : w6.grownBy w8 none := by rw [← hw8]; exact grown_alloc (World.grownBy.refl _ _) _
      have hL8 : w8.heap[w6.heap.size]? = some (.cells #[.int .i64 0, .int .i64 4, .int .i64 5] 3 (0, 0)) := by rw [← hw8]; exact heap_alloc_new _ _
      have B8 := B6.new g8
      have HW8 := hide hw8
      clear hw8 B6 g8
      go_wp2_with fail
      rw [unhide HW8]
      refine (pick_of tb ao n cap q6 3 zs w8 B8.c (by omega) (by omega) (by omega)).mono ?_
      rintro e w9 ⟨x9, q9, rfl, hx90, hx91, c9, hq9, g9⟩
      obtain ⟨i9, rfl⟩ := Int.eq_ofNat_of_zero_le hx90
      have B9 := B8.pick LIE c9 g9
      have hL9 := (g9.block w6.heap.size (Array.getElem?_eq_some_iff.1 hL8).1 (by simp; have := c6.lt; omega)).trans hL8
      obtain ⟨y9, hy9⟩ : ∃ y9 : Int, w9.cell? ⟨w6.heap.size, i9, none⟩ = some (.int .i64 y9) := by
        rw [cell_of_row w9 _ i9 _ _ (0, 0) hL9]
        have : i9 = 0 ∨ i9 = 1 ∨ i9 = 2 := by omega
        rcases this with rfl | rfl | rfl <;> exact ⟨_, rfl⟩
      obtain ⟨fF, fX⟩ := B9.free
      have kF := compCells4 B9.x
      have HB9 := hide B9
      clear B8 B9 c9 g9 hL8 hL9 HW8 c6
      go_wp2
      exact cont ((unhide HB9).setX LIE 2 y9 _ _ _ _ rfl) (by omega)
    · obtain ⟨w8, hw8⟩ : ∃ w8, w6.alloc (.cells #[.int .i64 (-1), .int .i64 3, .int .i64 4] 3) = w8 := ⟨_, rfl⟩
      have g8 : w6.grownBy w8 none := by rw [← hw8]; exact grown_alloc (World.grownBy.refl _ _) _
      have hL8 : w8.heap[w6.heap.size]? = some (.cells #[.int .i64 (-1), .int .i64 3, .int .i64 4] 3 (0, 0)) := by rw [← hw8]; exact heap_alloc_new _ _
      have B8 := B6.new g8
      have HW8 := hide hw8
      clear hw8 B6 g8
      go_wp2_with fail
      rw [unhide HW8]
      refine (pick_of tb ao n cap q6 3 zs w8 B8.c (by omega) (by omega) (by omega)).mono ?_
      rintro e w9 ⟨x9, q9, rfl, hx90, hx91, c9, hq9, g9⟩
      obtain ⟨i9, rfl⟩ := Int.eq_ofNat_of_zero_le hx90
      have B9 := B8.pick LIE c9 g9
      have hL9 := (g9.block w6.heap.size (Array.getElem?_eq_some_iff.1 hL8).1 (by simp; have := c6.lt; omega)).trans hL8
      obtain ⟨y9, hy9⟩ : ∃ y9 : Int, w9.cell? ⟨w6.heap.size, i9, none⟩ = some (.int .i64 y9) := by
        rw [cell_of_row w9 _ i9 _ _ (0, 0) hL9]
        have : i9 = 0 ∨ i9 = 1 ∨ i9 = 2 := by omega
        rcases this with rfl | rfl | rfl <;> exact ⟨_, rfl⟩
      obtain ⟨fF, fX⟩ := B9.free
      have kF := compCells4 B9.x
      have HB9 := hide B9
      clear B8 B9 c9 g9 hL8 hL9 HW8 c6
      go_wp2
      exact cont ((unhide HB9).setX LIE 3 y9 _ _ _ _ rfl) (by omega)
    · have B7 := B6.setF LIE 1 128 _ _ _ _ rfl
      have kF6 := frameCells5 B6.f
      obtain ⟨fF6, _⟩ := B6.free
      obtain ⟨w7, hw7⟩ : ∃ w7, w6.setCell ⟨w1.heap.size, 1, none⟩ (.int .i64 128) = w7 := ⟨_, rfl⟩
      rw [hw7] at B7
      have HW7 := hide hw7
      clear hw7 B6 c6
      go_wp2_with fail
      rw [unhide HW7]
      refine (pick_of tb ao n cap q6 2 zs w7 B7.c (by omega) (by omega) (by omega)).mono ?_
      rintro e w9 ⟨x9, q9, rfl, hx90, hx91, c9, hq9, g9⟩
      have B9 := B7.pick LIE c9 g9
      obtain ⟨fF, fX⟩ := B9.free
      have kF := frameCells5 B9.f
      have hw := i64_in (128 + x9) (by omega)
      have HB9 := hide B9
      clear B7 B9 c9 g9 HW7 kF6 fF6
      go_wp2
      exact cont ((unhide HB9).setF LIE 2 (128 + x9) _ _ _ _ rfl) (by omega)

end Go.Proofs.Ytoeehfjbnbbijaa
