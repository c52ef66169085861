/-
  FrameMarks, CoefBox, LawCoefsOk.
-/
import Derived.Test.YtibgldanmhckiaaMh

namespace Go.Proofs.Ytibgldanmhckiaa
open Go.RowKit

/-- Components that are marked all over, from k0 on. -/
def markedC (k0 : Int) : Nat → Nat → Int := fun i j => k0 + 4 * (i : Int) + (j : Int)
theorem markPart_set (C : Nat → Nat → Int) (k0 : Int) (n k : Nat) (q : Int) (hq : k0 + 4 * (k : Int) = q) :
    ((((rowsK n 4 (compCells (fun i j => if i < k then markedC k0 i j else C i j))).set (k * 4) (.int .i64 q)).set (k * 4 + 1) (.int .i64 (q + 1))).set (k * 4 + 2) (.int .i64 (q + 1 + 1))).set (k * 4 + 3) (.int .i64 (q + 1 + 1 + 1)) = rowsK n 4 (compCells (fun i j => if i < k + 1 then markedC k0 i j else C i j)) := by
  have e0 := rowsK_set n 4 (compCells (fun i j => if i < k then markedC k0 i j else C i j)) k 0 (.int .i64 q) (by omega)
  rw [Nat.add_zero] at e0
  rw [e0, rowsK_set _ _ _ k 1 _ (by omega), rowsK_set _ _ _ k 2 _ (by omega), rowsK_set _ _ _ k 3 _ (by omega)]
  apply rowsK_congr
  intro i j _ hj
  have hj4 : j = 0 ∨ j = 1 ∨ j = 2 ∨ j = 3 := by omega
  by_cases e1 : i = k
  · subst e1
    rcases hj4 with rfl | rfl | rfl | rfl <;> simp [compCells, markedC, hq] <;> omega
  · by_cases e2 : i < k
    · rcases hj4 with rfl | rfl | rfl | rfl <;> simp [compCells, e1, e2, show i < k + 1 by omega]
    · rcases hj4 with rfl | rfl | rfl | rfl <;> simp [compCells, e1, e2, show ¬ i < k + 1 by omega]

set_option maxHeartbeats 1600000 in
theorem markCompS (ao : Option Addr) (n cap base : Nat) (C : Nat → Nat → Int) (k0 : Int) (w : World) (ho : w.ownsRow base 70 4 (.slice ao n cap) n (rowsK n 4 (compCells C))) (hn : n ≤ 4194304) (h0 : 0 ≤ k0) (h1 : k0 ≤ 1073741824) :
    Calls Try.prog 63 #[.slice ao n cap, .int .i64 k0] w fun e w' => e = .returned (.int .i64 (k0 + 4 * n)) ∧
      w'.ownsRow base 70 4 (.slice ao n cap) n (rowsK n 4 (compCells (markedC k0))) ∧ w.grownBy w' (Value.slice ao n cap).ownBlock := by
  have ho' : w.ownsRow base 70 4 (.slice ao n cap) n (rowsK n 4 (compCells (fun i j => if i < 0 then markedC k0 i j else C i j))) := by
    have e : rowsK n 4 (compCells (fun i j => if i < 0 then markedC k0 i j else C i j)) = rowsK n 4 (compCells C) := rowsK_congr (fun i j _ _ => by simp [compCells])
    rw [e]; exact ho
  clear ho
  have HO := hide ho'
  clear ho'
  go_enter Try.func63, Try.ntmps63
  go_wp2
  go_loopw [1, 5] (fun c i wr => ∃ k : Nat, k ≤ n ∧ i = .int .i64 k ∧ c = .int .i64 (k0 + 4 * k) ∧ wr.ownsRow base 70 4 (.slice ao n cap) n (rowsK n 4 (compCells (fun i j => if i < k then markedC k0 i j else C i j))) ∧ w.grownBy wr (Value.slice ao n cap).ownBlock) (fun _ i _ => n - (intOf i).toNat)
  case atStart => exact ⟨0, Nat.zero_le _, rfl, by go_num, unhide HO, World.grownBy.refl _ _⟩
  case round =>
    obtain ⟨k, hk, rfl, rfl, hok, hgk⟩ := hrel
    by_cases hlt : k < n
    · obtain ⟨g, rfl, _, _⟩ := own_at hok (by omega)
      obtain ⟨q, hq⟩ : ∃ q, k0 + 4 * (k : Int) = q := ⟨_, rfl⟩
      have HSET := hide (markPart_set C k0 n k q hq)
      have hqb : 0 ≤ q ∧ q ≤ 2000000000 := by omega
      have HQ := hide hq
      rw [hq]
      clear hq
      have f0 := hok.frozenAt (k * 4)
      have f1 := hok.frozenAt (k * 4 + 1)
      have f2 := hok.frozenAt (k * 4 + 2)
      have f3 := hok.frozenAt (k * 4 + 3)
      have hold : ∀ j, j < n * 4 → ∃ u, wr.cell? ⟨g, j, none⟩ = some u := fun j hj => by rw [hok.cellAt j hj]; exact ⟨_, List.getElem?_eq_getElem (by rw [hok.1]; omega)⟩
      obtain ⟨v0, hv0⟩ := hold (k * 4) (by omega)
      obtain ⟨v1, hv1⟩ := hold (k * 4 + 1) (by omega)
      obtain ⟨v2, hv2⟩ := hold (k * 4 + 2) (by omega)
      obtain ⟨v3, hv3⟩ := hold (k * 4 + 3) (by omega)
      have s0 := hok.stored (k * 4) (.int .i64 q)
      have s1 := s0.1.stored (k * 4 + 1) (.int .i64 (q + 1))
      have s2 := s1.1.stored (k * 4 + 2) (.int .i64 (q + 1 + 1))
      have s3 := s2.1.stored (k * 4 + 3) (.int .i64 (q + 1 + 1 + 1))
      have HG := hide (grown_trans hgk (grown_trans (grown_trans (grown_trans s0.2 s1.2) s2.2) s3.2))
      have HS := hide s3.1
      rw [unhide HSET] at HS
      clear s0 s1 s2 s3 hok hgk hold HSET
      go_wp2
      go_roundw
      case rel => exact ⟨k + 1, by omega, by go_num, by have := unhide HQ; congr 1; omega, unhide HS, unhide HG⟩
      case measure => simp [intOf]; omega
    · have hkn : k = n := by omega
      subst hkn
      go_wp2
      go_ret
      refine ⟨rfl, ?_, hgk⟩
      have e : rowsK k 4 (compCells (markedC k0)) = rowsK k 4 (compCells (fun i j => if i < k then markedC k0 i j else C i j)) := rowsK_congr (fun i j hi' _ => by simp [compCells, hi'])
      rw [e]; exact hok

set_option maxHeartbeats 1600000 in
theorem markFrame (p wd ht rs : Int) (ao : Option Addr) (n cap base : Nat) (C : Nat → Nat → Int) (k0 : Int) (w : World) (ho : w.ownsRow base 70 4 (.slice ao n cap) n (rowsK n 4 (compCells C))) (hn : n ≤ 4194304) (h0 : 0 ≤ k0) (h1 : k0 ≤ 1073741824) :
    Calls Try.prog 24 #[.agg #[.int .i64 p, .int .i64 wd, .int .i64 ht, .int .i64 rs, .slice ao n cap], .int .i64 k0] w fun e w' => e = .returned (.int .i64 (k0 + 4 * n)) ∧
      w'.ownsRow base 70 4 (.slice ao n cap) n (rowsK n 4 (compCells (markedC k0))) ∧ w.grownBy w' (Value.slice ao n cap).ownBlock := by
  have HO := hide (own_grown ho (grown_alloc (World.grownBy.refl w none) (.cells #[.int .i64 p, .int .i64 wd, .int .i64 ht, .int .i64 rs, .slice ao n cap] 26)))
  have G : Hid (w.grownBy (w.alloc (.cells #[.int .i64 p, .int .i64 wd, .int .i64 ht, .int .i64 rs, .slice ao n cap] 26)) (Value.slice ao n cap).ownBlock) := grown_any (grown_alloc (World.grownBy.refl _ _) _)
  clear ho
  go_enter Try.func24, Try.ntmps24
  go_wp2_with fail
  refine (markCompS ao n cap base C k0 _ (unhide HO) hn h0 h1).mono ?_
  rintro e w1 ⟨rfl, o1, g1⟩
  have O1 := hide o1
  have G1 := hide (grown_trans (unhide G) g1)
  clear o1 g1
  go_wp2
  go_ret
  exact ⟨rfl, unhide O1, unhide G1⟩

end Go.Proofs.Ytibgldanmhckiaa

namespace Go.Proofs.Ytibgldanmhckiaa
open Go.RowKit

/-- Coefficients that are owned, in a box. -/
structure Bc (W : World) (b : Nat) (v : Value) (X : List (List (List Int))) (F : List Nat) : Prop where
  box : W.heap[b]? = some (.cells #[v] 29 (0, 0))
  own : OwCo W (.agg #[v]) X F
theorem Bc.lt {W : World} {b : Nat} {v : Value} {X : List (List (List Int))} {F : List Nat} (h : Bc W b v X F) : b < W.heap.size := (Array.getElem?_eq_some_iff.1 h.box).1
theorem Bc.wr {W W' : World} {b : Nat} {v : Value} {X : List (List (List Int))} {F G : List Nat} (h : Bc W b v X F) (g : Wr G W W') (hb : b ∉ G) (hd : ∀ x ∈ F, x ∉ G) : Bc W' b v X F := ⟨(g.block b h.lt hb).trans h.box, h.own.wr g hd⟩
theorem Bc.keep {W W' : World} {b : Nat} {v : Value} {X : List (List (List Int))} {F : List Nat} (h : Bc W b v X F) (g : W.grownBy W' none) : Bc W' b v X F := ⟨(g.block b h.lt (by simp)).trans h.box, h.own.keep g⟩
theorem Bc.cell {W : World} {b : Nat} {v : Value} {X : List (List (List Int))} {F : List Nat} (h : Bc W b v X F) : W.cell? ⟨b, 0, none⟩ = some v := by rw [cell_of_row W b 0 _ _ (0, 0) h.box]; rfl
theorem Bc.new {W : World} {v : Value} {X : List (List (List Int))} {F : List Nat} (h : OwCo W (.agg #[v]) X F) : Bc (W.alloc (.cells #[v] 29)) W.heap.size v X F := ⟨heap_alloc_new W _, h.keep (World.grownBy_alloc _ _ _)⟩
theorem Bc.form {W : World} {v : Value} {X : List (List (List Int))} {F : List Nat} (h : OwCo W v X F) : ∃ so sc, v = .agg #[.slice so X.length sc] := by
  obtain ⟨u, rfl, h⟩ := h
  obtain ⟨so, sc, rfl⟩ := h.form
  exact ⟨so, sc, rfl⟩

/-- A frame that is owned, in a box. -/
structure Bf (W : World) (b : Nat) (p wd ht rs : Int) (q n base : Nat) (C : Nat → Nat → Int) : Prop where
  box : W.heap[b]? = some (.cells #[.int .i64 p, .int .i64 wd, .int .i64 ht, .int .i64 rs, .slice (some ⟨q, 0, none⟩) n n] 26 (0, 0))
  own : W.ownsRow base 70 4 (.slice (some ⟨q, 0, none⟩) n n) n (rowsK n 4 (compCells C))
section
variable {W W' : World} {b q n base : Nat} {p wd ht rs : Int} {C : Nat → Nat → Int}
theorem Bf.lt (h : Bf W b p wd ht rs q n base C) : b < W.heap.size := (Array.getElem?_eq_some_iff.1 h.box).1
theorem Bf.keep (h : Bf W b p wd ht rs q n base C) (g : W.grownBy W' none) : Bf W' b p wd ht rs q n base C := ⟨(g.block b h.lt (by simp)).trans h.box, own_grown h.own g⟩
theorem Bf.new (h : W.ownsRow base 70 4 (.slice (some ⟨q, 0, none⟩) n n) n (rowsK n 4 (compCells C))) (p wd ht rs : Int) : Bf (W.alloc (.cells #[.int .i64 p, .int .i64 wd, .int .i64 ht, .int .i64 rs, .slice (some ⟨q, 0, none⟩) n n] 26)) W.heap.size p wd ht rs q n base C :=
  ⟨heap_alloc_new W _, own_grown h (World.grownBy_alloc _ _ _)⟩
theorem Bf.rd (h : Bf W b p wd ht rs q n base C) : RdC W (some ⟨q, 0, none⟩) n C := own_rdC h.own
end

end Go.Proofs.Ytibgldanmhckiaa

namespace Go.Proofs.Ytibgldanmhckiaa
open Go.RowKit

theorem RdCz.st {w w' : World} {u : Value} {X : List (List (List Int))} (h : RdCz w u X) (g : w.grownBy w' none) : RdCz w' u X := by
  have s1 : StR (RdZ (RdI .i64)) := fun _ _ _ _ h g => ⟨RdI.st .i64 _ _ _ _ h.1 g, h.2⟩
  have s2 : StR (RdZ (RdR (RdZ (RdI .i64)))) := fun _ _ _ _ h g => ⟨RdR.st s1 _ _ _ _ h.1 g, h.2⟩
  have s3 : StR (RdZ (RdR (RdZ (RdR (RdZ (RdI .i64)))))) := fun _ _ _ _ h g => ⟨RdR.st s2 _ _ _ _ h.1 g, h.2⟩
  obtain ⟨v, e, h⟩ := h
  exact ⟨v, e, s3 _ _ _ _ h g⟩

/-- What came in, in its two boxes. -/
structure In2 (w W : World) (bs : Array Value) (v : Value) : Prop where
  fb : W.heap[w.heap.size]? = some (.cells bs 46 (0, 0))
  cb : W.heap[w.heap.size + 1]? = some (.cells #[v] 53 (0, 0))
  grown : w.grownBy W none
theorem In2.new {w W W' : World} {bs : Array Value} {v : Value} (h : In2 w W bs v) (g : W.grownBy W' none) : In2 w W' bs v := ⟨grown_atT g h.fb (by simp), grown_atT g h.cb (by simp), grown_trans h.grown g⟩
theorem In2.size {w W : World} {bs : Array Value} {v : Value} (h : In2 w W bs v) : w.heap.size + 2 ≤ W.heap.size := by have := (Array.getElem?_eq_some_iff.1 h.cb).1; omega
theorem In2.wr {w W W' : World} {bs : Array Value} {v : Value} {F : List Nat} (h : In2 w W bs v) (g : Wr F W W') (hF : ∀ x ∈ F, w.heap.size + 2 ≤ x) : In2 w W' bs v := by
  have hs := h.size
  exact ⟨(g.block _ (by omega) (fun e => by have := hF _ e; omega)).trans h.fb, (g.block _ (by omega) (fun e => by have := hF _ e; omega)).trans h.cb, Wr.new h.grown g (fun x hx => by have := hF x hx; omega)⟩
theorem In2.start (w : World) (bs : Array Value) (v : Value) : In2 w ((w.alloc (.cells bs 46)).alloc (.cells #[v] 53)) bs v := by
  refine ⟨?_, ?_, grown_alloc (grown_alloc (World.grownBy.refl _ _) _) _⟩
  · rw [Below.heap_alloc _ _ _ (by simp)]
    exact heap_alloc_new w _
  · have := heap_alloc_new (w.alloc (.cells bs 46)) (.cells #[v] 53)
    simpa using this
theorem In2.cell {w W : World} {bs : Array Value} {v : Value} (h : In2 w W bs v) : W.cell? ⟨w.heap.size + 1, 0, none⟩ = some v := by rw [cell_of_row W _ 0 _ _ (0, 0) h.cb]; rfl

set_option maxRecDepth 20000 in
set_option maxHeartbeats 3200000 in
theorem lawCoefsOk (HI : Hid ImplCoefsOk) (p wd ht rs : Int) (ao : Option Addr) (n cap : Nat) (C : Nat → Nat → Int) (v : Value) (X : List (List (List Int))) (w : World) (hr : RdC w ao n C) (hm : n ≤ maxLen) (hx : RdCz w (.agg #[v]) X) :
    Calls Try.prog 5 #[.agg #[.int .i64 p, .int .i64 wd, .int .i64 ht, .int .i64 rs, .slice ao n cap], .agg #[v]] w fun e w' => e = .returned (.bool true) ∧ Below w.heap.size w w' := by
  unfold maxLen at hm
  obtain ⟨xo, xc, rfl⟩ : ∃ xo xc, v = .slice xo X.length xc := by
    obtain ⟨v', e, h⟩ := hx
    obtain ⟨xo, xc, e2, _⟩ := h.1
    have : v = v' := by simpa using e
    exact ⟨xo, xc, this.trans e2⟩
  obtain ⟨m, HM⟩ : ∃ m, Hid (X.length = m) := ⟨_, rfl⟩
  rw [unhide HM] at hx ⊢
  have HR := hide hr
  have HX := hide hx
  clear hr hx
  obtain ⟨fb, HFB⟩ : ∃ fb, Hid (frameB p wd ht rs n C = fb) := ⟨_, rfl⟩
  obtain ⟨b, HB⟩ : ∃ b, Hid (coefsOkF fb wd ht n C X = b) := ⟨_, rfl⟩
  have I0 := hide (In2.start w #[.int .i64 p, .int .i64 wd, .int .i64 ht, .int .i64 rs, .slice ao n cap] (.slice xo m xc))
  have c0 := (unhide I0).cell
  have ca := frameCells (unhide I0).fb
  by_cases hbig : (n : Int) ≤ 1048576
  · obtain ⟨lf, hlf⟩ : ∃ lf : Nat, (1048576 : Int) - (n : Int) = (lf : Int) := ⟨1048576 - n, by omega⟩
    have HSZ : Hid ((if (n : Int) ≤ 1048576 then 1048576 - (n : Int) else -1) = (lf : Int)) := (if_pos hbig).trans hlf
    have hneg : decide ((lf : Int) < 0) = false := decide_eq_false (by omega)
    have hn : n ≤ 4194304 := by omega
    have hl1 : lf ≤ 1048576 := by omega
    clear hlf
    by_cases hsz : szCo X ≤ lf
    · obtain ⟨r, HR2⟩ : ∃ r : Int, Hid ((if szCo X ≤ lf then (lf : Int) - szCo X else -1) = r) := ⟨_, rfl⟩
      have hr2 : decide (r < 0) = false := decide_eq_false (by have := unhide HR2; rw [if_pos hsz] at this; omega)
      have hs : szCo X ≤ 1048576 := by omega
      have hbb : (b != b) = false := by simp
      go_enter Try.func5, Try.ntmps5
      go_wp2_with fail
      generalize ((w.alloc (.cells #[.int .i64 p, .int .i64 wd, .int .i64 ht, .int .i64 rs, .slice ao n cap] 46)).alloc (.cells #[.slice xo m xc] 53)) = wx at *
      refine (szFrame p wd ht rs ao n cap 1048576 _ wx (by omega) (by omega) (by omega) HSZ).mono ?_
      rintro e w1 ⟨rfl, g1⟩
      have I1 := hide ((unhide I0).new g1)
      clear c0 ca g1 I0
      have c0 := (unhide I1).cell
      go_wp2_with fail
      refine (szCoefsC w1 _ X lf ((unhide HX).st (unhide I1).grown) hl1 r HR2).mono ?_
      rintro e w2 ⟨rfl, g2⟩
      have I2 := hide ((unhide I1).new g2)
      clear c0 g2 I1
      go_wp2
      refine wp_region_noPanic ?_
      refine wp_region_tailL 20 (fun W => In2 w W #[.int .i64 p, .int .i64 wd, .int .i64 ht, .int .i64 rs, .slice ao n cap] (.slice xo m xc)) [true, false, true, false, false, false] (by kernel_rfl) (fun _ _ _ _ _ h => h) rfl (by decide) (by kernel_rfl) ((unhide I2).new (grown_drew (World.grownBy.refl _ _))) ?_
      have I3 := hide ((unhide I2).new (grown_drew (World.grownBy.refl _ _)))
      clear I2
      generalize w2.drew = w3 at *
      refine heldF_take (v := ?_) (Or.inl ⟨by rfl, ?_⟩) ?_
      rotate_left 1
      · intro w' hSw
        try dsimp only at hSw
        have s1 := frameCells hSw.fb
        go_simp
        try with_reducible rfl
      simp only [Act.put, List.setIfInBounds_toArray, List.set_cons_zero, List.set_cons_succ]
      refine heldF_skip ?_
      refine heldF_take (v := ?_) (Or.inl ⟨by rfl, ?_⟩) ?_
      rotate_left 1
      · intro w' hSw
        try dsimp only at hSw
        have s1 := hSw.cell
        go_simp
        try with_reducible rfl
      simp only [Act.put, List.setIfInBounds_toArray, List.set_cons_zero, List.set_cons_succ]
      refine heldF_skip (heldF_skip (heldF_skip (heldF_nil ?_)))
      refine tailL_skip (tailL_step (fun K hK => ?_))
      go_simp
      refine (toFrame p wd ht rs ao n cap C w3 ((unhide HR).grown (unhide I3).grown) hn).mono ?_
      rintro e w4 ⟨q1, rfl, o4, g4⟩
      have I4 := hide ((unhide I3).new g4)
      have RF := hide (own_rdC o4)
      clear I3 g4 o4
      go_simp
      refine hK.out _ _ (.inr (unhide I4)) ?_
      clear hK K
      refine tailL_skip (tailL_step (fun K hK => ?_))
      go_simp
      refine (toCoefsC w4 _ X ((unhide HX).st (unhide I4).grown).rd hs).mono ?_
      rintro e w5 ⟨u5, F5, rfl, o5, n5, l5, g5⟩
      obtain ⟨vo, vc, rfl⟩ := Bc.form o5
      rw [unhide HM] at o5 ⊢
      have I5 := hide ((unhide I4).new g5)
      have RF5 := hide ((unhide RF).grown g5)
      obtain ⟨v5, e5, r5⟩ := o5.rd
      obtain rfl : Value.slice vo m vc = v5 := by simpa using e5
      have RX5 := hide r5
      clear I4 g5 o5 n5 l5 RF e5 r5
      go_simp
      refine hK.out _ _ (.inr (unhide I5)) ?_
      clear hK K
      refine tailL_step (fun K hK => ?_)
      go_simp
      refine (specCoefsOk p wd ht rs _ n n C _ X w5 (unhide RF5) (unhide RX5) hs fb b HFB HB).mono ?_
      rintro e w6 ⟨rfl, g6⟩
      have I6 := hide ((unhide I5).new g6)
      clear I5 RF5 RX5 g6
      go_simp
      refine hK.out _ _ (.inr (unhide I6)) ?_
      clear hK K
      refine tailL_step (fun K hK => ?_)
      go_simp
      refine hK.out _ _ (.inl rfl) ?_
      clear hK K
      refine tailL_nil (NoPanic.normal ?_)
      have ca := frameCells (unhide I6).fb
      go_wp2_with fail
      refine (toFrame p wd ht rs ao n cap C w6 ((unhide HR).grown (unhide I6).grown) hn).mono ?_
      rintro e w7 ⟨q2, rfl, o7, g7⟩
      have g8 := grown_alloc g7 (.cells #[.int .i64 p, .int .i64 wd, .int .i64 ht, .int .i64 rs, .slice (some ⟨q2, 0, none⟩) n n] 26)
      have I8 := hide ((unhide I6).new g8)
      have HF8 := hide (Bf.new o7 p wd ht rs)
      have c0 := (unhide I8).cell
      clear ca g7 g8 o7 I6
      go_wp2_with fail
      generalize (w7.alloc (.cells #[.int .i64 p, .int .i64 wd, .int .i64 ht, .int .i64 rs, .slice (some ⟨q2, 0, none⟩) n n] 26)) = w8 at *
      refine (toCoefsC w8 _ X ((unhide HX).st (unhide I8).grown).rd hs).mono ?_
      rintro e w9 ⟨u9, F9, rfl, o9, n9, l9, g9⟩
      obtain ⟨yo, yc, rfl⟩ := Bc.form o9
      rw [unhide HM] at o9 ⊢
      have ga := grown_alloc g9 (.cells #[.slice yo m yc] 29)
      have Ia := hide ((unhide I8).new ga)
      have HFa := hide ((unhide HF8).keep ga)
      have HCa := hide (Bc.new o9)
      have cx := frameCells (unhide HFa).box
      have cy := (unhide HCa).cell
      clear c0 g9 ga o9 n9 l9 I8 HF8
      go_wp2_with fail
      generalize (w9.alloc (.cells #[.slice yo m yc] 29)) = wa at *
      obtain ⟨v9, e9, r9⟩ := (unhide HCa).own.rd
      obtain rfl : Value.slice yo m yc = v9 := by simpa using e9
      refine (unhide HI p wd ht rs _ n n C _ X wa (unhide HFa).rd hn r9 hs fb b HFB HB).mono ?_
      rintro e wb ⟨rfl, gb⟩
      have Ib := hide ((unhide Ia).new gb)
      have HFb := hide ((unhide HFa).keep gb)
      have HCb := hide ((unhide HCa).keep gb)
      clear cx cy e9 r9 gb Ia HFa HCa
      go_wp2
      refine wp_region_noPanic ?_
      have gd := grown_drew (World.grownBy.refl wb none)
      have Ic := hide ((unhide Ib).new gd)
      have HFc := hide ((unhide HFb).keep gd)
      have HCc := hide ((unhide HCb).keep gd)
      clear gd Ib HFb HCb
      refine wp_region_tailL 20 (fun W => In2 w W #[.int .i64 p, .int .i64 wd, .int .i64 ht, .int .i64 rs, .slice ao n cap] (.slice xo m xc) ∧ Bf W w7.heap.size p wd ht rs q2 n w6.heap.size C) [true, true, false, false, false] (by kernel_rfl) (fun _ _ _ _ _ h => h) rfl (by decide) (by kernel_rfl) ⟨unhide Ic, unhide HFc⟩ ?_
      generalize wb.drew = wc1 at *
      refine heldF_take (v := ?_) (Or.inl ⟨by rfl, ?_⟩) ?_
      rotate_left 1
      · intro w' hSw
        try dsimp only at hSw
        have s1 := frameCells hSw.2.box
        go_simp
        try with_reducible rfl
      simp only [Act.put, List.setIfInBounds_toArray, List.set_cons_zero, List.set_cons_succ]
      refine heldF_take (v := ?_) (Or.inl ⟨by rfl, ?_⟩) ?_
      rotate_left 1
      · intro w' hSw
        try dsimp only at hSw
        have s1 := frameCells hSw.1.fb
        go_simp
        try with_reducible rfl
      simp only [Act.put, List.setIfInBounds_toArray, List.set_cons_zero, List.set_cons_succ]
      refine heldF_skip (heldF_skip (heldF_skip (heldF_nil ?_)))
      refine tailL_skip (tailL_skip (tailL_step (fun K hK => ?_)))
      go_simp
      refine (toFrame p wd ht rs ao n cap C wc1 ((unhide HR).grown (unhide Ic).grown) hn).mono ?_
      rintro e wd1 ⟨q3, rfl, od, gd⟩
      have Id := hide ((unhide Ic).new gd)
      have HFd := hide ((unhide HFc).keep gd)
      have HCd := hide ((unhide HCc).keep gd)
      have RD := hide (own_rdC od)
      clear Ic HFc HCc gd od
      go_simp
      refine hK.out _ _ (.inr ⟨unhide Id, unhide HFd⟩) ?_
      clear hK K
      refine tailL_step (fun K hK => ?_)
      go_simp
      refine (eqFrame p wd ht rs _ _ n n n C wd1 (unhide HFd).rd (unhide RD) hn).mono ?_
      rintro e we ⟨rfl, ge⟩
      have Ie := hide ((unhide Id).new ge)
      have HFe := hide ((unhide HFd).keep ge)
      have HCe := hide ((unhide HCd).keep ge)
      clear Id HFd HCd ge RD
      go_simp
      refine hK.out _ _ (.inr ⟨unhide Ie, unhide HFe⟩) ?_
      clear hK K
      refine tailL_step (fun K hK => ?_)
      go_simp
      refine hK.out _ _ (.inl rfl) ?_
      clear hK K HFe
      refine tailL_nil (NoPanic.normal ?_)
      go_wp2
      refine wp_region_noPanic ?_
      have gd := grown_drew (World.grownBy.refl we none)
      have If := hide ((unhide Ie).new gd)
      have HCf := hide ((unhide HCe).keep gd)
      clear gd Ie HCe
      refine wp_region_tailL 20 (fun W => In2 w W #[.int .i64 p, .int .i64 wd, .int .i64 ht, .int .i64 rs, .slice ao n cap] (.slice xo m xc) ∧ W.cell? ⟨w9.heap.size, 0, none⟩ = some (.slice yo m yc)) [true, true, false, false, false] (by kernel_rfl) (fun _ _ _ _ _ h => h) rfl (by decide) (by kernel_rfl) ⟨unhide If, (unhide HCf).cell⟩ ?_
      generalize we.drew = wf at *
      refine heldF_take (v := ?_) (Or.inl ⟨by rfl, ?_⟩) ?_
      rotate_left 1
      · intro w' hSw
        try dsimp only at hSw
        have s1 := hSw.2
        go_simp
        try with_reducible rfl
      simp only [Act.put, List.setIfInBounds_toArray, List.set_cons_zero, List.set_cons_succ]
      refine heldF_take (v := ?_) (Or.inl ⟨by rfl, ?_⟩) ?_
      rotate_left 1
      · intro w' hSw
        try dsimp only at hSw
        have s1 := hSw.1.cell
        go_simp
        try with_reducible rfl
      simp only [Act.put, List.setIfInBounds_toArray, List.set_cons_zero, List.set_cons_succ]
      refine heldF_skip (heldF_skip (heldF_skip (heldF_nil ?_)))
      refine tailL_skip (tailL_skip (tailL_step (fun K hK => ?_)))
      go_simp
      refine (toCoefsC wf _ X ((unhide HX).st (unhide If).grown).rd hs).mono ?_
      rintro e wg ⟨ug, Fg, rfl, og, ng, lg, gg⟩
      obtain ⟨zo, zc, rfl⟩ := Bc.form og
      rw [unhide HM] at og ⊢
      have Ig := hide ((unhide If).new gg)
      have HCg := hide ((unhide HCf).keep gg)
      have OG := hide og.rd
      clear If HCf gg og ng lg
      go_simp
      refine hK.out _ _ (.inr ⟨unhide Ig, (unhide HCg).cell⟩) ?_
      clear hK K
      refine tailL_step (fun K hK => ?_)
      go_simp
      refine (eqCoefsC wg _ _ X (unhide HCg).own.rd (unhide OG) hs).mono ?_
      rintro e wh ⟨rfl, gh⟩
      have Ih := hide ((unhide Ig).new gh)
      have HCh := hide ((unhide HCg).keep gh)
      clear Ig HCg gh OG
      go_simp
      refine hK.out _ _ (.inr ⟨unhide Ih, (unhide HCh).cell⟩) ?_
      clear hK K
      refine tailL_step (fun K hK => ?_)
      go_simp
      refine hK.out _ _ (.inl rfl) ?_
      clear hK K
      refine tailL_nil (NoPanic.normal ?_)
      go_wp2
      go_ret
      exact ⟨rfl, grown_below (unhide Ih).grown⟩
    · obtain ⟨r, HR2⟩ : ∃ r : Int, Hid ((if szCo X ≤ lf then (lf : Int) - szCo X else -1) = r) := ⟨_, rfl⟩
      have hr2 : decide (r < 0) = true := decide_eq_true (by have := unhide HR2; rw [if_neg hsz] at this; omega)
      go_enter Try.func5, Try.ntmps5
      go_wp2_with fail
      generalize ((w.alloc (.cells #[.int .i64 p, .int .i64 wd, .int .i64 ht, .int .i64 rs, .slice ao n cap] 46)).alloc (.cells #[.slice xo m xc] 53)) = wx at *
      refine (szFrame p wd ht rs ao n cap 1048576 _ wx (by omega) (by omega) (by omega) HSZ).mono ?_
      rintro e w1 ⟨rfl, g1⟩
      have I1 := hide ((unhide I0).new g1)
      clear c0 ca g1 I0
      have c0 := (unhide I1).cell
      go_wp2_with fail
      refine (szCoefsC w1 _ X lf ((unhide HX).st (unhide I1).grown) hl1 r HR2).mono ?_
      rintro e w2 ⟨rfl, g2⟩
      have I2 := hide ((unhide I1).new g2)
      clear c0 g2 I1
      go_wp2
      go_ret
      exact ⟨rfl, grown_below (unhide I2).grown⟩
  · have HSZ : Hid ((if (n : Int) ≤ 1048576 then 1048576 - (n : Int) else -1) = -1) := if_neg hbig
    go_enter Try.func5, Try.ntmps5
    go_wp2_with fail
    generalize ((w.alloc (.cells #[.int .i64 p, .int .i64 wd, .int .i64 ht, .int .i64 rs, .slice ao n cap] 46)).alloc (.cells #[.slice xo m xc] 53)) = wx at *
    refine (szFrame p wd ht rs ao n cap 1048576 _ wx (by omega) (by omega) (by omega) HSZ).mono ?_
    rintro e w1 ⟨rfl, g1⟩
    have I1 := hide ((unhide I0).new g1)
    clear c0 ca g1 I0
    go_wp2
    go_ret
    exact ⟨rfl, grown_below (unhide I1).grown⟩

end Go.Proofs.Ytibgldanmhckiaa
