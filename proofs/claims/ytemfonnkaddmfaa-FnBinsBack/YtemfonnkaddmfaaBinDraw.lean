/-
  Bins that are drawn.
-/
import Derived.Test.YtemfonnkaddmfaaBinRows
import Derived.Test.YtemfonnkaddmfaaCurOnce
import Derived.Test.YtemfonnkaddmfaaCurOdd
namespace Go.Proofs.Ytemfonnkaddmfaa
open Go.RowKit

theorem flat_set : ∀ (I : List (Int × Int)) (k : Nat) (a b : Int), k < I.length → ((flat I).set (k * 2) (.int .i64 a)).set (k * 2 + 1) (.int .i64 b) = flat (I.set k (a, b))
  | p :: I, 0, a, b, _ => by simp [flat]
  | p :: I, k + 1, a, b, h => by
    have ih := flat_set I k a b (by simpa using h)
    have e0 : (k + 1) * 2 = k * 2 + 1 + 1 := by omega
    have e1 : (k + 1) * 2 + 1 = k * 2 + 1 + 1 + 1 := by omega
    rw [e1, e0]
    simp only [flat_cons, List.set_cons_succ, ih]
def oneOf4 (a b c d : Int) (i : Nat) : Int := [a, b, c, d].getD i 0
theorem oneOf4_at (t : TypeId) {W : World} {i : Nat} (hi : i < 4) (a b c d : Int) : (W.alloc (.cells #[.int .i64 a, .int .i64 b, .int .i64 c, .int .i64 d] t)).cell? ⟨W.heap.size, i, none⟩ = some (.int .i64 (oneOf4 a b c d i)) := by
  rw [cell_of_row _ _ i _ _ (0, 0) (heap_alloc_new W _)]
  rcases i with _ | _ | _ | _ | i <;> first | rfl | omega

/-- Bins that are being drawn. -/
structure Db (w : World) (tb : Nat) (ao : Option Addr) (n cap : Nat) (zs : List Int) (q : Nat) (W : World) (v : Value) (ys : List (Int × Int)) : Prop where
  own : W.ownsRow w.heap.size 30 2 v ys.length (flat ys)
  cur : Cur W tb ao n cap zs q
  grown : w.grownBy W (some tb)
  tl : tb < w.heap.size
  code : 0 < n → ∀ b off, ao = some ⟨b, off, none⟩ → b < w.heap.size
/-- And one in a box beside them. -/
structure Dx (w : World) (tb : Nat) (ao : Option Addr) (n cap : Nat) (zs : List Int) (q : Nat) (W : World) (v : Value) (ys : List (Int × Int)) (pb : Nat) (a b : Int) : Prop where
  db : Db w tb ao n cap zs q W v ys
  box : W.heap[pb]? = some (.cells #[.int .i64 a, .int .i64 b] 30 (0, 0))
  pl : w.heap.size ≤ pb
  ne : v.ownBlock ≠ some pb

section
variable {w : World} {tb : Nat} {ao : Option Addr} {n cap : Nat} {zs : List Int} {q : Nat} {W : World} {v : Value} {ys : List (Int × Int)} {pb : Nat} {a b : Int}
theorem Db.pick {W' : World} {q' : Nat} (h : Db w tb ao n cap zs q W v ys) (hc : Cur W' tb ao n cap zs q') (hg : W.grownBy W' (some tb)) : Db w tb ao n cap zs q' W' v ys :=
  ⟨own_beneath h.own hg (fun a b e1 e2 => by have := (h.own.lt a e1).1; have := h.tl; simp at e2; omega), hc, grown_trans h.grown hg, h.tl, h.code⟩
theorem Db.new {W' : World} (h : Db w tb ao n cap zs q W v ys) (hg : W.grownBy W' none) : Db w tb ao n cap zs q W' v ys :=
  ⟨own_grown h.own hg, h.cur.grown hg, grown_trans h.grown (grown_any hg), h.tl, h.code⟩
theorem Db.side {W' : World} {row : Option Nat} {v' : Value} {ys' : List (Int × Int)} (h : Db w tb ao n cap zs q W v ys) (hg : W.grownBy W' row) (hr : ∀ g, row = some g → w.heap.size ≤ g) (ho : W'.ownsRow w.heap.size 30 2 v' ys'.length (flat ys')) : Db w tb ao n cap zs q W' v' ys' :=
  ⟨ho, h.cur.beside hg (fun g e => by have := hr g e; have := h.tl; exact ⟨by omega, fun h0 b off e2 => by have := h.code h0 b off e2; omega⟩),
   ⟨hg.os.trans h.grown.os, hg.tape.trans h.grown.tape, hg.output.trans h.grown.output, Nat.le_trans h.grown.size hg.size, fun k hk he => (hg.block k (Nat.lt_of_lt_of_le hk h.grown.size) (by intro e; have := hr k e.symm; omega)).trans (h.grown.block k hk he)⟩, h.tl, h.code⟩
theorem Db.nil (hc : Cur W tb ao n cap zs q) (hg : w.grownBy W (some tb)) (ht : tb < w.heap.size) (hcode : 0 < n → ∀ b off, ao = some ⟨b, off, none⟩ → b < w.heap.size) : Db w tb ao n cap zs q (W.alloc (.cells #[] 30)) (.slice (some ⟨W.heap.size, 0, none⟩) 0 0) [] :=
  ⟨own_base (World.ownsRow_lit W #[] 0 (Nat.le_refl _) (by unfold maxLen; omega) rfl) hg.size, hc.grown (World.grownBy_alloc _ _ _), grown_trans hg (World.grownBy_alloc _ _ _), ht, hcode⟩
theorem Db.boxed (h : Db w tb ao n cap zs q W v ys) (a b : Int) : Dx w tb ao n cap zs q (W.alloc (.cells #[.int .i64 a, .int .i64 b] 30)) v ys W.heap.size a b :=
  ⟨h.new (World.grownBy_alloc _ _ _), heap_alloc_new W _, h.grown.size, fun e => by have := (h.own.lt _ e).2; omega⟩
theorem Dx.pick {W' : World} {q' : Nat} (h : Dx w tb ao n cap zs q W v ys pb a b) (hc : Cur W' tb ao n cap zs q') (hg : W.grownBy W' (some tb)) : Dx w tb ao n cap zs q' W' v ys pb a b :=
  ⟨h.db.pick hc hg, (hg.block pb (Array.getElem?_eq_some_iff.1 h.box).1 (by have := h.pl; have := h.db.tl; simp; omega)).trans h.box, h.pl, h.ne⟩
theorem Dx.new {W' : World} (h : Dx w tb ao n cap zs q W v ys pb a b) (hg : W.grownBy W' none) : Dx w tb ao n cap zs q W' v ys pb a b :=
  ⟨h.db.new hg, (hg.block pb (Array.getElem?_eq_some_iff.1 h.box).1 (by simp)).trans h.box, h.pl, h.ne⟩
theorem Dx.at0 (h : Dx w tb ao n cap zs q W v ys pb a b) (y : Int) : Dx w tb ao n cap zs q (W.setCell ⟨pb, 0, none⟩ (.int .i64 y)) v ys pb y b := by
  have hs := grown_set W pb 0 (.int .i64 y)
  exact ⟨h.db.side hs (fun g e => by have := Option.some.inj e; have := h.pl; omega) (own_beneath h.db.own hs (fun g g' e e' e2 => h.ne (by rw [e, e2, ← Option.some.inj e']))), heap_setCell_same W pb 0 _ _ _ h.box, h.pl, h.ne⟩
theorem Dx.at1 (h : Dx w tb ao n cap zs q W v ys pb a b) (y : Int) : Dx w tb ao n cap zs q (W.setCell ⟨pb, 1, none⟩ (.int .i64 y)) v ys pb a y := by
  have hs := grown_set W pb 1 (.int .i64 y)
  exact ⟨h.db.side hs (fun g e => by have := Option.some.inj e; have := h.pl; omega) (own_beneath h.db.own hs (fun g g' e e' e2 => h.ne (by rw [e, e2, ← Option.some.inj e']))), heap_setCell_same W pb 1 _ _ _ h.box, h.pl, h.ne⟩
theorem Dx.cells (h : Dx w tb ao n cap zs q W v ys pb a b) : W.cell? ⟨pb, 0, none⟩ = some (.int .i64 a) ∧ W.cell? ⟨pb, 1, none⟩ = some (.int .i64 b) ∧ W.frozen? ⟨pb, 0, none⟩ = false ∧ W.frozen? ⟨pb, 1, none⟩ = false :=
  ⟨by rw [cell_of_row W _ 0 _ _ (0, 0) h.box]; rfl, by rw [cell_of_row W _ 1 _ _ (0, 0) h.box]; rfl, frozen_of_row W pb 0 _ _ h.box, frozen_of_row W pb 1 _ _ h.box⟩
end

theorem Db.at' {w : World} {tb : Nat} {ao : Option Addr} {n cap : Nat} {zs : List Int} {q : Nat} {W : World} {ys : List (Int × Int)} {g c k m : Nat} (h : Db w tb ao n cap zs q W (.slice (some ⟨g, 0, none⟩) m c) ys) (hm : ys.length = m) (hk : k < m) : (∃ x y : Int, W.cell? ⟨g, k * 2, none⟩ = some (.int .i64 x) ∧ W.cell? ⟨g, k * 2 + 1, none⟩ = some (.int .i64 y)) ∧ ∀ j, W.frozen? ⟨g, j, none⟩ = false := by
  subst hm
  obtain ⟨h0, h1⟩ := flat_get ys k hk
  exact ⟨⟨_, _, (h.own.cellAt _ (by omega)).trans h0, (h.own.cellAt _ (by omega)).trans h1⟩, fun j => h.own.frozenAt j⟩
theorem Db.put {w : World} {tb : Nat} {ao : Option Addr} {n cap : Nat} {zs : List Int} {q : Nat} {W : World} {ys : List (Int × Int)} {g c m : Nat} (h : Db w tb ao n cap zs q W (.slice (some ⟨g, 0, none⟩) m c) ys) (hm : ys.length = m) (k : Nat) (hk : k < m) (x y : Int) : Db w tb ao n cap zs q ((W.setCell ⟨g, k * 2, none⟩ (.int .i64 x)).setCell ⟨g, k * 2 + 1, none⟩ (.int .i64 y)) (.slice (some ⟨g, 0, none⟩) m c) (ys.set k (x, y)) := by
  subst hm
  have s0 := h.own.stored (k * 2) (.int .i64 x)
  have s1 := s0.1.stored (k * 2 + 1) (.int .i64 y)
  rw [flat_set ys k x y hk] at s1
  refine h.side (grown_trans s0.2 s1.2) (fun g' e => by have := Option.some.inj e; have := (h.own.lt g rfl).1; omega) ?_
  rw [List.length_set]
  exact s1.1

set_option maxRecDepth 20000 in
set_option maxHeartbeats 1600000 in
theorem drawBins (tb : Nat) (ao : Option Addr) (n cap p : Nat) (zs : List Int) (w : World) (h : Cur w tb ao n cap zs p) (hp : p ≤ 900000) (hcode : 0 < n → ∀ b off, ao = some ⟨b, off, none⟩ → b < w.heap.size) :
    Calls Try.prog 29 #[.pointer (some ⟨tb, 0, none⟩)] w fun e w' => ∃ (v : Value) (ys : List (Int × Int)) (q : Nat), e = .returned v ∧ ys.length ≤ 480 ∧ q ≤ p + 2910 ∧ Db w tb ao n cap zs q w' v ys := by
  have HD0 := hide (Db.nil (w := w) h (World.grownBy.refl _ _) h.lt hcode)
  clear h hcode
  go_enter Try.func29, Try.ntmps29
  go_wp2_with fail
  refine (pick_of tb ao n cap p 6 zs _ (unhide HD0).cur (by omega) (by omega) (by omega)).mono ?_
  rintro e w1 ⟨x1, q1, rfl, hx10, hx11, c1, hq1, g1⟩
  have HD1 := hide ((unhide HD0).pick c1 g1)
  have e1 := i64_in (1 + x1) (by omega)
  clear c1 g1 HD0
  obtain ⟨few, hfew⟩ : ∃ few, 1 + x1 = few := ⟨_, rfl⟩
  rw [hfew] at e1
  go_wp2_with fail
  refine (pick_of tb ao n cap q1 2 zs w1 (unhide HD1).cur (by omega) (by omega) (by omega)).mono ?_
  rintro e w2 ⟨lk, q2, rfl, hx20, hx21, c2, hq2, g2⟩
  have HD2 := hide ((unhide HD1).pick c2 g2)
  clear c2 g2 HD1
  go_wp2_with fail
  refine (size_of tb ao n cap q2 40 zs w2 (unhide HD2).cur (by omega) (by omega) (by omega)).mono ?_
  rintro e w3 ⟨x3, q3, rfl, hx30, hx31, c3, hq3, g3⟩
  have HD3 := hide ((unhide HD2).pick c3 g3)
  clear c3 g3 HD2
  go_wp2_with fail
  refine (pick_of tb ao n cap q3 12 zs w3 (unhide HD3).cur (by omega) (by omega) (by omega)).mono ?_
  rintro e w4 ⟨x4, q4, rfl, hx40, hx41, c4, hq4, g4⟩
  have HD4 := hide ((unhide HD3).pick c4 g4)
  clear c4 g4 HD3
  have e4 := i64_in (1 + x4) (by omega)
  obtain ⟨M, hM⟩ : ∃ M : Nat, x3 * (1 + x4) = (M : Int) := Int.eq_ofNat_of_zero_le (Int.mul_nonneg hx30 (by omega))
  have hM4 : M ≤ 480 := by
    have h1 : x3 * (1 + x4) ≤ 40 * (1 + x4) := Int.mul_le_mul_of_nonneg_right hx31 (by omega)
    omega
  have e5 : IntKind.i64.wrap (x3 * (1 + x4)) = (M : Int) := by rw [hM]; exact i64_in _ (by omega)
  clear hM
  go_wp2
  go_loopw [3, 6] (fun v i wr => ∃ (j q : Nat) (Y : List (Int × Int)), i = .int .i64 j ∧ Y.length + j ≤ 480 ∧ q + 6 * j ≤ p + 2890 ∧ Hid (Db w tb ao n cap zs q wr v Y)) (fun _ i _ => (intOf i).toNat)
  case atStart => exact ⟨M, q4, [], rfl, by simp; omega, by omega, HD4⟩
  case round =>
    clear HD4
    obtain ⟨j, q, Y, rfl, hj, hq, hD⟩ := hrel
    obtain ⟨so, sc, rfl⟩ := own_form (unhide hD).own
    have hYl : Y.length ≤ 480 := by omega
    by_cases hj0 : 0 < j
    · have hd : decide ((0 : Int) < (j : Int)) = true := by simp; omega
      have e2 := i64_in ((j : Int) - 1) (by omega)
      go_wp2_with fail
      refine (pick_any tb ao n cap q few zs wr (unhide hD).cur (by omega) (by omega) (by omega)).mono ?_
      rintro e w5 ⟨cx, q5, rfl, hc0, hc1, c5, hq5, g5⟩
      have HD5 := hide ((unhide hD).pick c5 g5)
      have HX5 := hide ((unhide HD5).boxed cx lk)
      clear c5 g5 hD HD5
      obtain ⟨w6, HW6⟩ : ∃ w6, Hid (w5.alloc (.cells #[.int .i64 cx, .int .i64 lk] 30) = w6) := ⟨_, rfl⟩
      rw [unhide HW6] at HX5
      have e6 := i64_in (3 * cx) (by omega)
      have e7 := i64_in (1 + 3 * cx) (by omega)
      have k0 := (unhide HX5).cells.1
      go_wp2_with fail
      rw [unhide HW6]
      obtain ⟨pb, HPB⟩ : ∃ pb, Hid (w5.heap.size = pb) := ⟨_, rfl⟩
      rw [unhide HPB] at HX5 ⊢
      clear k0 HW6 HPB
      refine (pick_any tb ao n cap q5 (1 + 3 * cx) zs w6 (unhide HX5).db.cur (by omega) (by omega) (by omega)).mono ?_
      rintro e w7 ⟨x7, q7, rfl, hx70, hx71, c7, hq7, g7⟩
      have HX7 := hide ((unhide HX5).pick c7 g7)
      clear c7 g7 HX5
      obtain ⟨b0, HB0⟩ : ∃ b0, Hid ((x7 == 0) = b0) := ⟨_, rfl⟩
      have hb0 := unhide HB0
      cases b0 with
      | true =>
        go_wp2_with fail
        refine (pick_of tb ao n cap q7 2 zs w7 (unhide HX7).db.cur (by omega) (by omega) (by omega)).mono ?_
        rintro e w8 ⟨x8, q8, rfl, hx80, hx81, c8, hq8, g8⟩
        have HX8 := hide ((unhide HX7).pick c8 g8)
        obtain ⟨m0, m1, m2, m3⟩ := (unhide HX8).cells
        have HX9 := hide ((unhide HX8).at1 x8)
        obtain ⟨k0, k1, k2, k3⟩ := (unhide HX9).cells
        clear c8 g8 HX7 HX8
        obtain ⟨R, HR⟩ : ∃ R, Hid (Y ++ [(cx, x8)] = R) := ⟨_, rfl⟩
        have HRL : Hid (R.length = Y.length + 1) := by unfold Hid; rw [← unhide HR, List.length_append]; rfl
        have hgs := (unhide HX9).db.grown.size
        go_wp2_with (at_builtin; refine append_bin rfl _ _ rfl w.heap.size (.slice so Y.length sc) Y rfl (unhide HX9).db.own cx x8 w8.heap.size (by simp) rfl (by omega) hgs R (unhide HR) ?_)
        intro v10 w10 o10 g10
        have HD10 := hide ((unhide HX9).db.side g10 (fun g e => ((unhide HX9).db.own.lt g e).1) o10)
        obtain ⟨so10, sc10, rfl⟩ := own_form o10
        clear o10 g10 HX9 k0 k1 k2 k3 m0 m1 m2 m3 hgs
        go_wp2
        go_roundw
        case rel => exact ⟨j - 1, q8, R, by go_num, by have := unhide HRL; omega, by omega, HD10⟩
        case measure => simp [intOf]; omega
      | false =>
        obtain ⟨k0, k1, k2, k3⟩ := (unhide HX7).cells
        obtain ⟨R, HR⟩ : ∃ R, Hid (Y ++ [(cx, lk)] = R) := ⟨_, rfl⟩
        have HRL : Hid (R.length = Y.length + 1) := by unfold Hid; rw [← unhide HR, List.length_append]; rfl
        have hgs := (unhide HX7).db.grown.size
        go_wp2_with (at_builtin; refine append_bin rfl _ _ rfl w.heap.size (.slice so Y.length sc) Y rfl (unhide HX7).db.own cx lk _ rfl rfl (by omega) hgs R (unhide HR) ?_)
        intro v10 w10 o10 g10
        have HD10 := hide ((unhide HX7).db.side g10 (fun g e => ((unhide HX7).db.own.lt g e).1) o10)
        obtain ⟨so10, sc10, rfl⟩ := own_form o10
        clear o10 g10 HX7 k0 k1 k2 k3 hgs
        go_wp2
        go_roundw
        case rel => exact ⟨j - 1, q7, R, by go_num, by have := unhide HRL; omega, by omega, HD10⟩
        case measure => simp [intOf]; omega
    · have hd : decide ((0 : Int) < (j : Int)) = false := by simp; omega
      by_cases hY0 : 0 < Y.length
      · have hdY : decide ((0 : Int) < (Y.length : Int)) = true := by simp; omega
        obtain ⟨g, rfl, _, _⟩ := own_at (unhide hD).own hY0
        go_wp2_with fail
        refine (once_of tb ao n cap q 15 zs wr (unhide hD).cur (by omega) (by omega) (by omega)).mono ?_
        rintro e w6 ⟨t6, q6, rfl, c6, hq6, g6⟩
        have HD6 := hide ((unhide hD).pick c6 g6)
        clear c6 g6 hD
        cases t6 with
        | false =>
          go_wp2
          go_ret
          exact ⟨_, Y, q6, rfl, hYl, by omega, unhide HD6⟩
        | true =>
          go_wp2_with fail
          refine (pick_any tb ao n cap q6 Y.length zs w6 (unhide HD6).cur (by omega) (by omega) (by omega)).mono ?_
          rintro e w7 ⟨y, q7, rfl, hy0, hy1, c7, hq7, g7⟩
          obtain ⟨k, rfl⟩ := Int.eq_ofNat_of_zero_le hy0
          have HD7 := hide ((unhide HD6).pick c7 g7)
          have hkY : k < Y.length := by omega
          obtain ⟨⟨xa, xb, a0, a1⟩, _⟩ := (unhide HD7).at' rfl hkY
          have HX7 := hide ((unhide HD7).boxed xa xb)
          clear c7 g7 HD6 HD7
          obtain ⟨w8, HW8⟩ : ∃ w8, Hid (w7.alloc (.cells #[.int .i64 xa, .int .i64 xb] 30) = w8) := ⟨_, rfl⟩
          rw [unhide HW8] at HX7
          go_wp2_with fail
          rw [unhide HW8]
          obtain ⟨pb, HPB⟩ : ∃ pb, Hid (w7.heap.size = pb) := ⟨_, rfl⟩
          rw [unhide HPB] at HX7 ⊢
          clear a0 a1 HW8 HPB
          refine (odd_of tb ao n cap q7 zs w8 (unhide HX7).db.cur (by omega)).mono ?_
          rintro e w9 ⟨y9, q9, rfl, c9, hq9, g9⟩
          have HX9 := hide ((unhide HX7).pick c9 g9)
          have hg9 := (unhide HX9).db.grown.size
          have htl := (unhide HX9).db.tl
          clear c9 g9 HX7
          go_wp2_with fail
          refine (pick_of tb ao n cap q9 4 zs _ ((unhide HX9).new (World.grownBy_alloc _ _ _)).db.cur (by omega) (by omega) (by omega)).mono ?_
          rintro e w10 ⟨z, q10, rfl, hz0, hz1, c10, hq10, g10⟩
          obtain ⟨zn, rfl⟩ := Int.eq_ofNat_of_zero_le hz0
          have hu := g10.cell (oneOf4_at 3 (W := w9) (i := zn) (by omega) _ _ _ _) (by simp; omega)
          generalize oneOf4 _ _ _ _ zn = u at hu
          have HX10 := hide (((unhide HX9).new (World.grownBy_alloc _ _ _)).pick c10 g10)
          obtain ⟨m0, m1, m2, m3⟩ := (unhide HX10).cells
          have HX11 := hide ((unhide HX10).at0 u)
          clear c10 g10 HX9 HX10 m1 m3
          go_wp2_with fail
          refine (once_of tb ao n cap q10 3 zs _ (unhide HX11).db.cur (by omega) (by omega) (by omega)).mono ?_
          rintro e w12 ⟨t12, q12, rfl, c12, hq12, g12⟩
          have HX12 := hide ((unhide HX11).pick c12 g12)
          clear c12 g12 HX11 hu m0 m2
          cases t12 with
          | false =>
            obtain ⟨k0, k1, _, _⟩ := (unhide HX12).cells
            obtain ⟨⟨ya, yb, b0, b1⟩, hfr⟩ := (unhide HX12).db.at' rfl hkY
            have f0 := hfr (k * 2)
            have f1 := hfr (k * 2 + 1)
            have HD13 := hide ((unhide HX12).db.put rfl k hkY u xb)
            clear HX12 hfr
            go_wp2
            go_ret
            exact ⟨_, Y.set k (u, xb), q12, rfl, by simp; omega, by omega, unhide HD13⟩
          | true =>
            go_wp2_with fail
            refine (odd_of tb ao n cap q12 zs w12 (unhide HX12).db.cur (by omega)).mono ?_
            rintro e w13 ⟨y13, q13, rfl, c13, hq13, g13⟩
            have HX13 := hide ((unhide HX12).pick c13 g13)
            obtain ⟨m0, m1, m2, m3⟩ := (unhide HX13).cells
            have HX14 := hide ((unhide HX13).at1 y13)
            obtain ⟨k0, k1, _, _⟩ := (unhide HX14).cells
            obtain ⟨⟨ya, yb, b0, b1⟩, hfr⟩ := (unhide HX14).db.at' rfl hkY
            have f0 := hfr (k * 2)
            have f1 := hfr (k * 2 + 1)
            have HD15 := hide ((unhide HX14).db.put rfl k hkY u y13)
            clear HX12 HX13 HX14 hfr c13 g13
            go_wp2
            go_ret
            exact ⟨_, Y.set k (u, y13), q13, rfl, by simp; omega, by omega, unhide HD15⟩
      · have hdY : decide ((0 : Int) < (Y.length : Int)) = false := decide_eq_false (by omega)
        go_wp2
        go_ret
        exact ⟨_, Y, q, rfl, hYl, by omega, unhide hD⟩

set_option maxRecDepth 20000 in
theorem drawEncodeBins (ao : Option Addr) (n cap : Nat) (zs : List Int) (w : World) (hr : Rd .u8 w ao n zs) (hb : ∀ i, 0 ≤ zs.getD i 0 ∧ zs.getD i 0 ≤ 255) (hn : n ≤ 1048576) :
    Calls Try.prog 8 #[.slice ao n cap] w fun e w' => ∃ (so : Option Addr) (m sc : Nat) (ys : List (Int × Int)), e = .returned (.slice so m sc) ∧ m ≤ 480 ∧ RdF w' so m ys ∧ w.grownBy w' none := by
  have HLT := hide hr.lt
  have HR := hide hr
  have HB := hide hb
  clear hr hb
  go_enter Try.func8, Try.ntmps8
  go_wp2_with fail
  refine (open_of ao n cap zs w (unhide HR) (unhide HB) hn).mono ?_
  rintro e w1 ⟨rfl, c1, g1⟩
  have hs1 := g1.size
  have hc1 := c1.lt
  have HC1 : Hid (0 < n → ∀ b off, ao = some ⟨b, off, none⟩ → b < w1.heap.size) := fun h b off e => by have := unhide HLT h b off e; omega
  have G1 := hide g1
  have C1 := hide c1
  clear c1 g1
  go_wp2_with fail
  refine (drawBins w.heap.size ao n cap 0 zs w1 (unhide C1) (by omega) (unhide HC1)).mono ?_
  rintro e w2 ⟨v, Y, q, rfl, hY, hq, d2⟩
  obtain ⟨so, sc, rfl⟩ := own_form d2.own
  have HF := hide (And.intro (own_rdF d2.own) (grown_new (unhide G1) d2.grown (fun g e => by simp at e; omega) : w.grownBy w2 none))
  clear d2
  go_wp2
  go_ret
  exact ⟨so, Y.length, sc, Y, rfl, hY, (unhide HF).1, (unhide HF).2⟩

end Go.Proofs.Ytemfonnkaddmfaa
