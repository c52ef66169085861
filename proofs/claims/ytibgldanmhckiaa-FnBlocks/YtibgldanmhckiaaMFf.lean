/-
  CurOnce, CurOdd, BlockDraw, CoefDraw, CoefDraw2, InfoInt, InfoByte, AppRd, Spoil, FrameWrite, FrameWrite2.
-/
import Derived.Deep.AppendLies
import Derived.Test.YtibgldanmhckiaaRows
import Derived.WalkKit
import Derived.Laws.AppendOwnNone
import Derived.Test.YtibgldanmhckiaaMFe

namespace Go.Proofs.Ytibgldanmhckiaa
open Go.RowKit

set_option maxHeartbeats 800000 in
theorem once_of (tb : Nat) (ao : Option Addr) (n cap p : Nat) (k : Int) (zs : List Int) (w : World) (h : Cur w tb ao n cap zs p) (hp : p ≤ 1000000000000) (hk : 2 ≤ k) (hk3 : k ≤ 2147483648) :
    Calls Try.prog 69 #[.pointer (some ⟨tb, 0, none⟩), .int .i64 k] w fun e w' => ∃ (t : Bool) (p' : Nat), e = .returned (.bool t) ∧ Cur w' tb ao n cap zs p' ∧ p' ≤ p + 2 ∧ w.grownBy w' (some tb) := by
  have H := hide h
  clear h
  go_enter Try.func69, Try.ntmps69
  go_wp2_with fail
  refine (pick_of tb ao n cap p k zs w (unhide H) hp hk hk3).mono ?_
  rintro e w1 ⟨x, p', rfl, hx0, hx1, hc, hp', hg⟩
  go_wp2
  go_ret
  exact ⟨_, p', rfl, hc, hp', hg⟩

/-- A pick, whatever it is asked. -/
theorem pick_any (tb : Nat) (ao : Option Addr) (n cap p : Nat) (k : Int) (zs : List Int) (w : World) (h : Cur w tb ao n cap zs p) (hp : p ≤ 1000000000000) (hk : 1 ≤ k) (hk3 : k ≤ 2147483648) :
    Calls Try.prog 70 #[.pointer (some ⟨tb, 0, none⟩), .int .i64 k] w fun e w' => ∃ (x : Int) (p' : Nat), e = .returned (.int .i64 x) ∧ 0 ≤ x ∧ x < k ∧ Cur w' tb ao n cap zs p' ∧ p' ≤ p + 2 ∧ w.grownBy w' (some tb) := by
  by_cases h2 : 2 ≤ k
  · exact pick_of tb ao n cap p k zs w h hp h2 hk3
  · refine (pick_small tb k w (by omega)).mono ?_
    rintro e w' ⟨rfl, rfl⟩
    exact ⟨0, p, rfl, by omega, by omega, h, by omega, World.grownBy.refl _ _⟩

end Go.Proofs.Ytibgldanmhckiaa

namespace Go.Proofs.Ytibgldanmhckiaa
open Go.RowKit

set_option maxHeartbeats 800000 in
theorem odd_of (tb : Nat) (ao : Option Addr) (n cap p : Nat) (zs : List Int) (w : World) (h : Cur w tb ao n cap zs p) (hp : p ≤ 1000000000) :
    Calls Try.prog 71 #[.pointer (some ⟨tb, 0, none⟩)] w fun e w' => ∃ (y : Int) (p' : Nat), e = .returned (.int .i64 y) ∧ Cur w' tb ao n cap zs p' ∧ p' ≤ p + 2 ∧ w.grownBy w' (some tb) := by
  have H := hide h
  have htb := h.lt
  clear h
  go_enter Try.func71, Try.ntmps71
  go_wp2_with fail
  obtain ⟨cs, hcs, hlen⟩ : ∃ cs : List Int, (#[.int .i64 (-1), .int .i64 0, .int .i64 1, .int .i64 2, .int .i64 255, .int .i64 256, .int .i64 65535, .int .i64 9223372036854775807, .int .i64 (-9223372036854775808), .int .i64 17, .int .i64 8, .int .i64 12] : Array Value) = (cs.map (Value.int .i64)).toArray ∧ cs.length = 12 :=
    ⟨[-1, 0, 1, 2, 255, 256, 65535, 9223372036854775807, -9223372036854775808, 17, 8, 12], rfl, rfl⟩
  rw [hcs]
  clear hcs
  have hc1 := (unhide H).grown (World.grownBy_alloc w (.cells (cs.map (Value.int .i64)).toArray 3) none)
  refine (pick_of tb ao n cap p 12 zs _ hc1 (by omega) (by omega) (by omega)).mono ?_
  rintro e w1 ⟨x, p', rfl, hx0, hx1, hc, hp', hg⟩
  obtain ⟨i, rfl⟩ := Int.eq_ofNat_of_zero_le hx0
  have hblk : w1.heap[w.heap.size]? = some (.cells (cs.map (Value.int .i64)).toArray 3 (0, 0)) :=
    (hg.block w.heap.size (by simp) (by simp; omega)).trans (heap_alloc_new w _)
  have hcell : w1.cell? ⟨w.heap.size, i, none⟩ = some (.int .i64 (cs.getD i 0)) := by
    rw [cell_of_row w1 _ i _ _ (0, 0) hblk]
    simp [show i < cs.length by omega]
  have G := grown_trans (World.grownBy_alloc w (.cells (cs.map (Value.int .i64)).toArray 3) (some tb)) hg
  generalize cs.getD i 0 = y at hcell
  clear hblk hc1 hx0 hlen
  go_wp2
  go_ret
  exact ⟨y, p', rfl, hc, hp', G⟩

end Go.Proofs.Ytibgldanmhckiaa

namespace Go.Proofs.Ytibgldanmhckiaa
open Go.RowKit

theorem info_bd : (Try.prog.info? 3).map (fun i => (i.zero, i.size, i.bytes)) = some (some (.int .i64 0), 1, 8) := by kernel_rfl

theorem specClip (n lo hi : Int) (h : lo ≤ hi) (w : World) :
    Calls Try.prog 99 #[.int .i64 n, .int .i64 lo, .int .i64 hi] w fun e w' => e = .returned (.int .i64 (min (max n lo) hi)) ∧ w = w' := by
  by_cases h1 : n < lo
  · go_enter Try.func99, Try.ntmps99
    go_wp2
    go_ret
    exact ⟨ret_int (by omega), rfl⟩
  · by_cases h2 : hi < n
    · go_enter Try.func99, Try.ntmps99
      go_wp2
      go_ret
      exact ⟨ret_int (by omega), rfl⟩
    · go_enter Try.func99, Try.ntmps99
      go_wp2
      go_ret
      exact ⟨ret_int (by omega), rfl⟩

theorem grown_newR {a b c : World} {r row : Option Nat} (h : a.grownBy b r) (hg : b.grownBy c row) (hge : ∀ g, row = some g → a.heap.size ≤ g) : a.grownBy c r :=
  ⟨hg.os.trans h.os, hg.tape.trans h.tape, hg.output.trans h.output, Nat.le_trans h.size hg.size, fun k hk hr => (hg.block k (Nat.lt_of_lt_of_le hk h.size) (by intro e; have := hge k e.symm; omega)).trans (h.block k hk hr)⟩

theorem append_intR {w : World} {ops : Array Oper} {rest : List Oper} {o : Oper} {a : Act} {Q : Exit → Act → World → Prop} (hgd : o.guard = none) (s x : Operand)
    (ho : o.op = .call { callee := .builtin .append, args := #[s, x], argTypes := #[32, 32] })
    (B : World) (r : Option Nat) (v : Value) (n : Nat) (xs : List Int) (hs : a.eval s = v) (hown : w.ownsRow B.heap.size 3 1 v n (xs.map (Value.int .i64))) (z : Int) (hx : a.eval x = .slice (some ⟨w.heap.size, 0, none⟩) 1 1)
    (hb : n + 1 ≤ 1000000) (hB : B.grownBy w r)
    (h : ∀ v' w', w'.ownsRow B.heap.size 3 1 v' (n + 1) ((xs ++ [z]).map (Value.int .i64)) → B.grownBy w' r → w.grownBy w' v.ownBlock → wpList Try.prog ops Q rest (a.put o.dst v') w') :
    wpList Try.prog ops Q (o :: rest) a (w.alloc (.cells #[.int .i64 z] 3)) := by
  obtain ⟨i0, hi, hz0, hz1, hz2⟩ := info_parts info_bd
  refine wpList_append_own _ hgd s x 32 ho B.heap.size 3 i0 (.int .i64 0) 1 8 Try.underlying32 hi hz0 hz1 hz2 rfl (by decide) v n _ hs (hown.alloc _) ⟨w.heap.size, 0, none⟩ 1 1 [.int .i64 z] hx rfl (cell_one_new _ _ _) (by intro u hu; simp at hu; subst hu; rfl) (by unfold maxLen; omega) (by omega) (by have := hB.size; simp; omega) ?_
  intro v' w' h1 h2 _
  exact h v' w' (by rw [List.map_append]; exact h1) (grown_newR (grown_trans hB (World.grownBy_alloc _ _ _)) h2 (fun g e => (hown.lt g e).1)) (grown_trans (World.grownBy_alloc _ _ _) h2)

/-- What a block's drawing leaves behind k rounds. -/
structure Dr (w : World) (tb : Nat) (ao : Option Addr) (n cap : Nat) (zs : List Int) (p : Nat) (wr : World) (v : Value) (k : Nat) : Prop where
  own : ∃ xs : List Int, wr.ownsRow w.heap.size 3 1 v k (xs.map (Value.int .i64))
  cur : ∃ q, q ≤ p + 8 * k ∧ Cur wr tb ao n cap zs q
  grown : w.grownBy wr (some tb)

set_option maxRecDepth 20000 in
set_option maxHeartbeats 1600000 in
theorem drawBlock (tb : Nat) (ao : Option Addr) (n cap p : Nat) (zs : List Int) (w : World) (h : Cur w tb ao n cap zs p) (hp : p ≤ 1000000) (most : Int) (hm : 1 ≤ most ∧ most ≤ 100000) :
    Calls Try.prog 73 #[.pointer (some ⟨tb, 0, none⟩), .int .i64 most] w fun e w' => ∃ v, e = .returned v ∧ Dr w tb ao n cap zs p w' v 64 := by
  have hlt := h.lt
  have HAL := hide h.rd.lt
  have e1 := i64_in (2 * most) (by omega)
  have e2 := i64_in (2 * most + 1) (by omega)
  have HD0 : Hid (Dr w tb ao n cap zs p (w.alloc (.cells #[] 3)) (.slice (some ⟨w.heap.size, 0, none⟩) 0 0) 0) :=
    ⟨⟨[], World.ownsRow_lit w #[] 0 (Nat.le_refl _) (by unfold maxLen; omega) rfl⟩, ⟨p, by omega, h.grown (World.grownBy_alloc _ _ _)⟩, World.grownBy_alloc _ _ _⟩
  clear h
  go_enter Try.func73, Try.ntmps73
  go_wp2
  go_loopw [5, 6] (fun o i wr => ∃ k : Nat, k ≤ 64 ∧ i = .int .i64 k ∧ Hid (Dr w tb ao n cap zs p wr o k)) (fun _ i _ => 64 - (intOf i).toNat)
  case atStart => exact ⟨0, Nat.zero_le _, rfl, HD0⟩
  case round =>
    obtain ⟨k, hk, rfl, hM⟩ := hrel
    obtain ⟨⟨xs, hown⟩, ⟨q, hq, hcur⟩, hgr⟩ := unhide hM
    obtain ⟨so2, sc2, rfl⟩ := own_form hown
    have HO := hide hown
    have HC := hide hcur
    have HG := hide hgr
    have HSL : Hid (∀ g, (Value.slice so2 k sc2).ownBlock = some g → w.heap.size ≤ g) := fun g e => (hown.lt g e).1
    clear hM hown hcur hgr
    have HEND : Hid (∀ (wx wy : World) (v' : Value) (ys : List Int) (q' : Nat), q' ≤ q + 8 → Cur wx tb ao n cap zs q' → wx.grownBy wy (Value.slice so2 k sc2).ownBlock → w.grownBy wy (some tb) → wy.ownsRow w.heap.size 3 1 v' (k + 1) (ys.map (Value.int .i64)) → Dr w tb ao n cap zs p wy v' (k + 1)) := by
      intro wx wy v' ys q' h1 h2 h3 h4 h5
      refine ⟨⟨ys, h5⟩, ⟨q', by omega, h2.beside h3 (fun g e => ?_)⟩, h4⟩
      have hg := unhide HSL g e
      exact ⟨by omega, fun hn b off e2 => by have := unhide HAL hn b off e2; omega⟩
    have HOW : Hid (∀ wx, wr.grownBy wx (some tb) → wx.ownsRow w.heap.size 3 1 (.slice so2 k sc2) k (xs.map (Value.int .i64))) := fun wx hg => own_beneath (unhide HO) hg (fun g g' e1 e2 => by have := unhide HSL g e1; simp at e2; omega)
    by_cases hlt64 : k < 64
    · go_wp2_with fail
      refine (pick_of tb ao n cap q 4 zs wr (unhide HC) (by omega) (by omega) (by omega)).mono ?_
      rintro e w1 ⟨x, q1, rfl, hx0, hx1, hc1, hq1, g1⟩
      have HC1 := hide hc1
      have HG1 := hide g1
      clear hc1 g1 HC
      by_cases hx : x = 0
      · subst hx
        go_wp2_with fail
        refine (pick_of tb ao n cap q1 (2 * most + 1) zs w1 (unhide HC1) (by omega) (by omega) (by omega)).mono ?_
        rintro e w2 ⟨y, q2, rfl, hy0, hy1, hc2, hq2, g2⟩
        have HC2 := hide hc2
        have HG2 := hide (grown_trans (unhide HG1) g2)
        clear hc2 g2 HC1 HG1
        go_wp2_with fail
        refine (once_of tb ao n cap q2 2 zs w2 (unhide HC2) (by omega) (by omega) (by omega)).mono ?_
        rintro e w3 ⟨t, q3, rfl, hc3, hq3, g3⟩
        have HC3 := hide hc3
        have HG3 := hide (grown_trans (unhide HG2) g3)
        clear hc3 g3 HC2 HG2
        cases t with
        | true =>
          go_wp2_with fail
          refine (pick_of tb ao n cap q3 9 zs w3 (unhide HC3) (by omega) (by omega) (by omega)).mono ?_
          rintro e w4 ⟨z, q4, rfl, hz0, hz1, hc4, hq4, g4⟩
          have HC4 := hide hc4
          have HG4 := hide (grown_trans (unhide HG3) g4)
          clear hc4 g4 HC3 HG3
          go_wp2_with fail
          refine (specClip (z - 4) (-most) most (by omega) w4).mono ?_
          rintro e w5 ⟨rfl, rfl⟩
          go_wp2_with (at_builtin; refine append_intR rfl _ _ rfl w (some tb) _ k xs rfl (unhide HOW _ (unhide HG4)) _ rfl (by omega) (grown_trans (unhide HG) (unhide HG4)) ?_; intro v' w' ho hg hg2)
          go_roundw
          case rel => exact ⟨k + 1, by omega, by go_num, unhide HEND _ _ _ _ q4 (by omega) (unhide HC4) hg2 hg ho⟩
          case measure => simp [intOf]; omega
        | false =>
          go_wp2_with fail
          refine (specClip (y - most) (-most) most (by omega) w3).mono ?_
          rintro e w5 ⟨rfl, rfl⟩
          go_wp2_with (at_builtin; refine append_intR rfl _ _ rfl w (some tb) _ k xs rfl (unhide HOW _ (unhide HG3)) _ rfl (by omega) (grown_trans (unhide HG) (unhide HG3)) ?_; intro v' w' ho hg hg2)
          go_roundw
          case rel => exact ⟨k + 1, by omega, by go_num, unhide HEND _ _ _ _ q3 (by omega) (unhide HC3) hg2 hg ho⟩
          case measure => simp [intOf]; omega
      · go_wp2_with fail
        refine (specClip 0 (-most) most (by omega) w1).mono ?_
        rintro e w5 ⟨rfl, rfl⟩
        go_wp2_with (at_builtin; refine append_intR rfl _ _ rfl w (some tb) _ k xs rfl (unhide HOW _ (unhide HG1)) _ rfl (by omega) (grown_trans (unhide HG) (unhide HG1)) ?_; intro v' w' ho hg hg2)
        go_roundw
        case rel => exact ⟨k + 1, by omega, by go_num, unhide HEND _ _ _ _ q1 (by omega) (unhide HC1) hg2 hg ho⟩
        case measure => simp [intOf]; omega
    · obtain rfl : k = 64 := by omega
      go_wp2
      go_ret
      exact ⟨_, rfl, ⟨⟨xs, unhide HO⟩, ⟨q, hq, unhide HC⟩, unhide HG⟩⟩

theorem own_cap {w : World} {base : Nat} {e : TypeId} {ao : Option Addr} {n cap : Nat} {xs : List Value} (h : w.ownsRow base e 1 (.slice ao n cap) n xs) : n ≤ cap := by
  rcases h.2 with ⟨h1, h2⟩ | ⟨g, cap', cur, h1, _, _, h4, _⟩
  · omega
  · simp only [Value.slice.injEq, true_and] at h1
    omega

end Go.Proofs.Ytibgldanmhckiaa

namespace Go.Proofs.Ytibgldanmhckiaa
open Go.RowKit

/-- A row of noughts is made, in a region that draws its order. -/
theorem step_make_ints {o : Oper} {a : Act} {w : World} {K : Act → World → Prop} {Q : Exit → Act → World → Prop} {t0 : Bool} {Z : Prop} (hw : t0 = true) (l c : Operand) (hop : o.op = Op.makeSlice 32 l c) (n : Nat) (hl : a.eval l = .int .i64 (n : Int)) (hc : a.eval c = .int .i64 (n : Int)) (hn : n ≤ 1000)
    (h : ∀ w', w'.ownsRow w.heap.size 3 1 (.slice (some ⟨w.heap.size, 0, none⟩) n n) n ((List.replicate n (0 : Int)).map (Value.int .i64)) → w.grownBy w' none → K (a.put o.dst (.slice (some ⟨w.heap.size, 0, none⟩) n n)) w') : if t0 = true then Oper.wp Try.prog o a w K Q else Z := by
  rw [if_pos hw]
  obtain ⟨i0, hi, hz0, hz1, hz2⟩ := info_parts info_i11
  obtain ⟨w', hrun, r1, r2⟩ := run_make_full (P := Try.prog) w w.heap.size 32 3 i0 (.int .i64 0) 1 Try.underlying32 hi hz0 hz1 .i64 .i64 n (by rw [hz2]; omega) (by unfold maxLen; omega) (Nat.le_refl _)
  unfold Oper.wp
  simp [execOp, hop, hl, hc, hrun, Result.andThen]
  refine h w' ?_ r2
  rw [List.map_replicate, ← toList_madeCells_one]
  rw [Nat.mul_one] at r1
  exact r1

/-- What does not change while coefficients are drawn. -/
structure Sx (w : World) (tb xb fb0 : Nat) (fo : Option Addr) (fn fc : Nat) (ao : Option Addr) (n : Nat) : Prop where
  l1 : tb < w.heap.size
  l2 : tb < fb0
  l3 : w.heap.size + 2 ≤ xb
  code : 0 < n → ∀ b off, ao = some ⟨b, off, none⟩ → b < w.heap.size
  fl : ∀ g, (Value.slice fo fn fc).ownBlock = some g → g < w.heap.size

/-- Coefficients, in a box, beside the frame, the answer's box and the drawer. -/
structure Dk (w : World) (tb xb fb0 : Nat) (p wd ht rs : Int) (fo : Option Addr) (fn fc : Nat) (C : Nat → Nat → Int) (ao : Option Addr) (n cap : Nat) (zs : List Int) (pv : Value) (wr : World) (X : List (List (List Int))) (F : List Nat) (q : Nat) : Prop where
  own : Ow3 wr pv X F
  nd : F.Nodup
  lo : ∀ g ∈ F, w.heap.size + 2 ≤ g ∧ g ≠ xb
  bx : wr.heap[xb]? = some (.cells #[pv] 29 (0, 0))
  fx : wr.heap[w.heap.size]? = some (.cells #[.int .i64 p, .int .i64 wd, .int .i64 ht, .int .i64 rs, .slice fo fn fc] 26 (0, 0))
  rx : wr.heap[w.heap.size + 1]? = some (.cells #[.slice none 0 0] 29 (0, 0))
  fow : wr.ownsRow fb0 70 4 (.slice fo fn fc) fn (rowsK fn 4 (compCells C))
  cur : Cur wr tb ao n cap zs q
  grown : w.grownBy wr (some tb)

section
variable {w wr w' : World} {tb xb fb0 : Nat} {p wd ht rs : Int} {fo : Option Addr} {fn fc : Nat} {C : Nat → Nat → Int} {ao : Option Addr} {n cap : Nat} {zs : List Int} {pv : Value} {X X' : List (List (List Int))} {F F' : List Nat} {q q' : Nat}

theorem at_row {a b : World} {row : Option Nat} {k : Nat} {o : Obj} (g : a.grownBy b row) (h : a.heap[k]? = some o) (hne : row ≠ some k) : b.heap[k]? = some o :=
  (g.block k (Array.getElem?_eq_some_iff.1 h).1 (fun e => hne e.symm)).trans h

/-- The coefficients are others. -/
theorem Dk.gen (h : Dk w tb xb fb0 p wd ht rs fo fn fc C ao n cap zs pv wr X F q) (s : Sx w tb xb fb0 fo fn fc ao n) {row : Option Nat} (g : wr.grownBy w' row) (hr : ∀ k, row = some k → w.heap.size + 2 ≤ k ∧ k ≠ xb) (o : Ow3 w' pv X' F') (nd : F'.Nodup) (lo : ∀ g ∈ F', w.heap.size + 2 ≤ g ∧ g ≠ xb) : Dk w tb xb fb0 p wd ht rs fo fn fc C ao n cap zs pv w' X' F' q := by
  have l1 := s.l1
  have l3 := s.l3
  refine ⟨o, nd, lo, at_row g h.bx (fun e => (hr _ e).2 rfl), at_row g h.fx (fun e => by have := (hr _ e).1; omega), at_row g h.rx (fun e => by have := (hr _ e).1; omega), ?_, ?_, ?_⟩
  · exact own_beneath h.fow g (fun a b h1 h2 => by have e1 := s.fl a h1; have e2 := (hr b h2).1; omega)
  · exact h.cur.beside g (fun k e => ⟨by have := (hr k e).1; omega, fun hn b off e2 => by have := s.code hn b off e2; have := (hr k e).1; omega⟩)
  · exact grown_newR h.grown g (fun k e => by have := (hr k e).1; omega)

/-- The coefficients are others, by two writings. -/
theorem Dk.two (h : Dk w tb xb fb0 p wd ht rs fo fn fc C ao n cap zs pv wr X F q) (s : Sx w tb xb fb0 fo fn fc ao n) {wm : World} {ra rb : Option Nat} (ga : wr.grownBy wm ra) (gb : wm.grownBy w' rb) (ha : ∀ k, ra = some k → w.heap.size + 2 ≤ k ∧ k ≠ xb) (hb : ∀ k, rb = some k → w.heap.size + 2 ≤ k ∧ k ≠ xb) (o : Ow3 w' pv X' F') (nd : F'.Nodup) (lo : ∀ g ∈ F', w.heap.size + 2 ≤ g ∧ g ≠ xb) : Dk w tb xb fb0 p wd ht rs fo fn fc C ao n cap zs pv w' X' F' q := by
  have l1 := s.l1
  have l3 := s.l3
  refine ⟨o, nd, lo, at_row gb (at_row ga h.bx (fun e => (ha _ e).2 rfl)) (fun e => (hb _ e).2 rfl), at_row gb (at_row ga h.fx (fun e => by have := (ha _ e).1; omega)) (fun e => by have := (hb _ e).1; omega), at_row gb (at_row ga h.rx (fun e => by have := (ha _ e).1; omega)) (fun e => by have := (hb _ e).1; omega), ?_, ?_, ?_⟩
  · exact own_beneath (own_beneath h.fow ga (fun a b h1 h2 => by have e1 := s.fl a h1; have e2 := (ha b h2).1; omega)) gb (fun a b h1 h2 => by have e1 := s.fl a h1; have e2 := (hb b h2).1; omega)
  · exact (h.cur.beside ga (fun k e => ⟨by have := (ha k e).1; omega, fun hn b off e2 => by have := s.code hn b off e2; have := (ha k e).1; omega⟩)).beside gb (fun k e => ⟨by have := (hb k e).1; omega, fun hn b off e2 => by have := s.code hn b off e2; have := (hb k e).1; omega⟩)
  · exact grown_newR (grown_newR h.grown ga (fun k e => by have := (ha k e).1; omega)) gb (fun k e => by have := (hb k e).1; omega)

theorem Wr.toRow {a b : World} {v : Value} (h : Wr (blk v) a b) : a.grownBy b v.ownBlock := ⟨h.os, h.tape, h.output, h.size, fun k hk hne => h.block k hk (fun e => hne (mem_blk.1 e).symm)⟩

theorem Dk.pick (h : Dk w tb xb fb0 p wd ht rs fo fn fc C ao n cap zs pv wr X F q) (s : Sx w tb xb fb0 fo fn fc ao n) (hc : Cur w' tb ao n cap zs q') (g : wr.grownBy w' (some tb)) : Dk w tb xb fb0 p wd ht rs fo fn fc C ao n cap zs pv w' X F q' := by
  have l1 := s.l1
  have l2 := s.l2
  have l3 := s.l3
  have hw : Wr [tb] wr w' := Wr.ofRow g (fun x e => by simp at e; simp [e])
  refine ⟨ok3.wr h.own hw (fun x hx e => by simp at e; have := (h.lo x hx).1; omega), h.nd, h.lo, at_row g h.bx (fun e => by simp at e; omega), at_row g h.fx (fun e => by simp at e; omega), at_row g h.rx (fun e => by simp at e; omega), ?_, hc, grown_trans h.grown g⟩
  exact own_beneath h.fow g (fun a b h1 h2 => by have e1 := (h.fow.lt a h1).1; simp at h2; omega)

theorem Dk.new (h : Dk w tb xb fb0 p wd ht rs fo fn fc C ao n cap zs pv wr X F q) (s : Sx w tb xb fb0 fo fn fc ao n) (g : wr.grownBy w' none) : Dk w tb xb fb0 p wd ht rs fo fn fc C ao n cap zs pv w' X F q :=
  h.gen s g (fun k e => by simp at e) (ok3.keep h.own g) h.nd h.lo

theorem Dk.side (h : Dk w tb xb fb0 p wd ht rs fo fn fc C ao n cap zs pv wr X F q) (s : Sx w tb xb fb0 fo fn fc ao n) {k : Nat} (g : wr.grownBy w' (some k)) (h1 : w.heap.size + 2 ≤ k) (h2 : k ≠ xb) (h3 : k ∉ F) : Dk w tb xb fb0 p wd ht rs fo fn fc C ao n cap zs pv w' X F q :=
  h.gen s g (fun j e => by simp at e; subst e; exact ⟨h1, h2⟩) (ok3.wr h.own (Wr.ofRow (F := [k]) g (fun x e => by simp at e; simp [e])) (fun x hx e => by simp at e; subst e; exact h3 hx)) h.nd h.lo

theorem Dk.size (h : Dk w tb xb fb0 p wd ht rs fo fn fc C ao n cap zs pv wr X F q) : xb < wr.heap.size ∧ ∀ g ∈ F, g < wr.heap.size := ⟨(Array.getElem?_eq_some_iff.1 h.bx).1, ok3.lt _ _ _ _ h.own⟩

/-- A plane. -/
theorem Dk.plane (h : Dk w tb xb fb0 p wd ht rs fo fn fc C ao n cap zs pv wr X F q) (i : Nat) (hi : i < X.length) : ∃ g1 c1 go gc, pv = .slice (some ⟨g1, 0, none⟩) X.length c1 ∧ wr.cell? ⟨g1, i, none⟩ = some (.slice go X[i].length gc) := by
  obtain ⟨g1, c1, u, Fi, e1, c0, hu, _⟩ := OwR.turn ok2 h.own h.nd i hi
  obtain ⟨uo, uc, rfl⟩ := OwR.form hu
  exact ⟨g1, c1, uo, uc, e1, c0⟩

/-- A block is another one. -/
theorem Dk.store (h : Dk w tb xb fb0 p wd ht rs fo fn fc C ao n cap zs pv wr X F q) (s : Sx w tb xb fb0 fo fn fc ao n) (i k : Nat) (hi : i < X.length) (hk : k < X[i].length) {base gb bc : Nat} {bs : List Int} (hb : wr.ownsRow base 3 1 (.slice (some ⟨gb, 0, none⟩) bs.length bc) bs.length (bs.map (Value.int .i64))) (h1 : w.heap.size + 2 ≤ gb) (h2 : gb ≠ xb) (h3 : gb ∉ F) :
    ∃ g1 c1 g2 c2 zv, pv = .slice (some ⟨g1, 0, none⟩) X.length c1 ∧ wr.cell? ⟨g1, i, none⟩ = some (.slice (some ⟨g2, 0, none⟩) X[i].length c2) ∧ wr.cell? ⟨g2, k, none⟩ = some zv ∧ wr.frozen? ⟨g2, k, none⟩ = false ∧
      ∃ F', Dk w tb xb fb0 p wd ht rs fo fn fc C ao n cap zs pv (wr.setCell ⟨g2, k, none⟩ (.slice (some ⟨gb, 0, none⟩) bs.length bc)) (X.set i (X[i].set k bs)) F' q := by
  obtain ⟨g1, c1, u, Fi, e1, c0, hu, hn, hs, ht'⟩ := OwR.turn ok2 h.own h.nd i hi
  obtain ⟨g2, c2, zv, e2, cz, fz⟩ := OwR.slot hu k hk
  have hg2 : u.ownBlock = some g2 := by rw [e2]; rfl
  have hgb : gb ∉ Fi := fun e => h3 (hs gb e)
  have hg2F : g2 ∈ Fi := by
    obtain ⟨us, Fs, _, _, _, _, rfl⟩ := hu
    simp [mem_blk.2 hg2]
  obtain ⟨F2, o2, n2, s2⟩ := OwR.put ok1 hu hn k hk hg2 (u' := .slice (some ⟨gb, 0, none⟩) bs.length bc) (a' := bs) (Fi' := [gb]) ⟨own_base hb (Nat.zero_le _), rfl⟩ (by simp) (fun x hx => by simp at hx; subst hx; exact hgb)
  have gs := grown_set wr g2 k (.slice (some ⟨gb, 0, none⟩) bs.length bc)
  obtain ⟨F3, o3, n3, s3⟩ := ht' _ _ F2 (Wr.ofRow gs (fun x e => by simp at e; subst e; exact hg2F)) o2 n2 (fun x hx => by
    rcases s2 x hx with hx | hx
    · exact .inl hx
    · simp at hx; subst hx; exact .inr h3)
  have lo3 : ∀ g ∈ F3, w.heap.size + 2 ≤ g ∧ g ≠ xb := fun x hx => by
    rcases s3 x hx with hx | hx
    · exact h.lo x hx
    · rcases s2 x hx with hx | hx
      · exact h.lo x (hs x hx)
      · simp at hx; subst hx; exact ⟨h1, h2⟩
  exact ⟨g1, c1, g2, c2, zv, e1, by rw [c0, e2], cz, fz, F3, h.gen s gs (fun j e => by simp at e; subst e; exact h.lo _ (hs _ hg2F)) o3 n3 lo3⟩

/-- A number of a block is another one. -/
theorem Dk.num (h : Dk w tb xb fb0 p wd ht rs fo fn fc C ao n cap zs pv wr X F q) (s : Sx w tb xb fb0 fo fn fc ao n) (i k j : Nat) (hi : i < X.length) (hk : k < X[i].length) (hj : j < X[i][k].length) :
    ∃ g1 c1 g2 c2 g3 c3 zv, pv = .slice (some ⟨g1, 0, none⟩) X.length c1 ∧ wr.cell? ⟨g1, i, none⟩ = some (.slice (some ⟨g2, 0, none⟩) X[i].length c2) ∧ wr.cell? ⟨g2, k, none⟩ = some (.slice (some ⟨g3, 0, none⟩) X[i][k].length c3) ∧ wr.cell? ⟨g3, j, none⟩ = some zv ∧ wr.frozen? ⟨g3, j, none⟩ = false ∧ tb < g1 ∧ tb < g2 ∧ tb < g3 ∧ g1 < wr.heap.size ∧ g2 < wr.heap.size ∧ g3 < wr.heap.size ∧
      ∀ y : Int, ∃ F', Dk w tb xb fb0 p wd ht rs fo fn fc C ao n cap zs pv (wr.setCell ⟨g3, j, none⟩ (.int .i64 y)) (X.set i (X[i].set k (X[i][k].set j y))) F' q := by
  obtain ⟨g1, c1, u, Fi, e1, c0, hu, hn, hs, ht'⟩ := OwR.turn ok2 h.own h.nd i hi
  obtain ⟨g2, c2, v2, Fk, e2, cz, hv, hn2, hs2, ht2⟩ := OwR.turn ok1 hu hn k hk
  obtain ⟨o1, rfl⟩ := hv
  obtain ⟨vo, vc, rfl⟩ := own_form o1
  obtain ⟨g3, rfl, _, hg3⟩ := own_at o1 (by omega)
  have hg3k : g3 ∈ blk (Value.slice (some ⟨g3, 0, none⟩) X[i][k].length vc) := mem_blk.2 rfl
  have cj : ∃ zv, wr.cell? ⟨g3, j, none⟩ = some zv := by rw [o1.cellAt j (by omega)]; exact ⟨_, List.getElem?_eq_getElem (by simpa using hj)⟩
  obtain ⟨zv, cj⟩ := cj
  have fj := o1.frozenAt j
  have l1 := s.l1
  have m3 := h.lo g3 (hs _ (hs2 _ hg3k))
  have hg1F : g1 ∈ F := by
    obtain ⟨us, Fs, _, _, _, _, rfl⟩ := h.own
    rw [e1]; simp [mem_blk.2 (show (Value.slice (some ⟨g1, 0, none⟩) X.length c1).ownBlock = some g1 from rfl)]
  have hg2F : g2 ∈ Fi := by
    obtain ⟨us, Fs, _, _, _, _, rfl⟩ := hu
    rw [e2]; simp [mem_blk.2 (show (Value.slice (some ⟨g2, 0, none⟩) X[i].length c2).ownBlock = some g2 from rfl)]
  have m1 := h.lo g1 hg1F
  have m2 := h.lo g2 (hs _ hg2F)
  have z1 := h.size.2 g1 hg1F
  have z2 := h.size.2 g2 (hs _ hg2F)
  refine ⟨g1, c1, g2, c2, g3, vc, zv, e1, by rw [c0, e2], cz, cj, fj, by omega, by omega, by omega, z1, z2, hg3, fun y => ?_⟩
  have st := o1.stored j (.int .i64 y)
  have em : (X[i][k].map (Value.int .i64)).set j (.int .i64 y) = (X[i][k].set j y).map (Value.int .i64) := by rw [List.map_set]
  rw [em] at st
  have o2 : OwI .i64 3 (wr.setCell ⟨g3, j, none⟩ (.int .i64 y)) (.slice (some ⟨g3, 0, none⟩) X[i][k].length vc) (X[i][k].set j y) (blk (Value.slice (some ⟨g3, 0, none⟩) X[i][k].length vc)) := ⟨by rw [List.length_set]; exact st.1, rfl⟩
  have hw : ∀ G, g3 ∈ G → Wr G wr (wr.setCell ⟨g3, j, none⟩ (.int .i64 y)) := fun G hG => Wr.ofRow st.2 (fun x e => by simp at e; subst e; exact hG)
  obtain ⟨F2, p2, n2, s2⟩ := ht2 _ _ _ (hw _ hg3k) o2 hn2 (fun x hx => .inl hx)
  obtain ⟨F3, p3, n3, s3⟩ := ht' _ _ F2 (hw _ (hs2 _ hg3k)) p2 n2 (fun x hx => by
    rcases s2 x hx with hx | hx
    · exact .inl hx
    · exact .inl (hs2 x hx))
  refine ⟨F3, h.gen s st.2 (fun j e => by simp at e; subst e; exact m3) p3 n3 (fun x hx => ?_)⟩
  rcases s3 x hx with hx | hx
  · exact h.lo x hx
  · rcases s2 x hx with hx | hx
    · exact h.lo x (hs x hx)
    · exact h.lo x (hs x (hs2 x hx))
/-- The outer row, a plane and a block lie in blocks of their own. -/
theorem Dk.apart {N g1 c1 g2 c2 g3 c3 i k : Nat} (h : Dk w tb xb fb0 p wd ht rs fo fn fc C ao n cap zs (.slice (some ⟨g1, 0, none⟩) N c1) wr X F q) (hi : i < X.length) (hk : k < X[i].length) {m2 m3 : Nat} (s1 : wr.cell? ⟨g1, i, none⟩ = some (.slice (some ⟨g2, 0, none⟩) m2 c2)) (s2 : wr.cell? ⟨g2, k, none⟩ = some (.slice (some ⟨g3, 0, none⟩) m3 c3)) : g1 ≠ g3 ∧ g2 ≠ g3 := by
  obtain ⟨g1', c1', u, Fi, e1, hg1, hg1n, c0, _, hu, hn, hs, _⟩ := OwR.swap ok2 h.own h.nd i hi
  obtain ⟨e2, -, -⟩ := Value.slice.inj e1
  obtain rfl : g1 = g1' := by simpa using e2
  rw [s1] at c0
  have e3 := Option.some.inj c0
  subst e3
  obtain ⟨g2', c2', v2, Fk, e4, hg2, hg2n, c5, _, hv, hn2, hs2, _⟩ := OwR.swap ok1 hu hn k hk
  obtain ⟨e5, -, -⟩ := Value.slice.inj e4
  obtain rfl : g2 = g2' := by simpa using e5
  rw [s2] at c5
  have e6 := Option.some.inj c5
  subst e6
  obtain ⟨_, rfl⟩ := hv
  have hg3 : g3 ∈ blk (Value.slice (some ⟨g3, 0, none⟩) m3 c3) := mem_blk.2 rfl
  exact ⟨fun e => hg1n (by rw [e]; exact hs2 _ hg3), fun e => hg2n (by rw [e]; exact hg3)⟩
theorem Dk.apart1 {N g1 c1 g2 c2 g3 c3 i k : Nat} (h : Dk w tb xb fb0 p wd ht rs fo fn fc C ao n cap zs (.slice (some ⟨g1, 0, none⟩) N c1) wr X F q) (hi : i < X.length) (hk : k < X[i].length) {m2 m3 : Nat} (s1 : wr.cell? ⟨g1, i, none⟩ = some (.slice (some ⟨g2, 0, none⟩) m2 c2)) (s2 : wr.cell? ⟨g2, k, none⟩ = some (.slice (some ⟨g3, 0, none⟩) m3 c3)) : g1 ≠ g3 := (h.apart hi hk s1 s2).1
theorem Dk.apart2 {N g1 c1 g2 c2 g3 c3 i k : Nat} (h : Dk w tb xb fb0 p wd ht rs fo fn fc C ao n cap zs (.slice (some ⟨g1, 0, none⟩) N c1) wr X F q) (hi : i < X.length) (hk : k < X[i].length) {m2 m3 : Nat} (s1 : wr.cell? ⟨g1, i, none⟩ = some (.slice (some ⟨g2, 0, none⟩) m2 c2)) (s2 : wr.cell? ⟨g2, k, none⟩ = some (.slice (some ⟨g3, 0, none⟩) m3 c3)) : g2 ≠ g3 := (h.apart hi hk s1 s2).2
end

/-- A block while it is drawn, beside the coefficients. -/
structure Bk (w : World) (xb : Nat) (F : List Nat) (gb : Nat) (wr : World) (bs : List Int) : Prop where
  own : wr.ownsRow (w.heap.size + 2) 3 1 (.slice (some ⟨gb, 0, none⟩) 64 64) 64 (bs.map (Value.int .i64))
  len : bs.length = 64
  lo : w.heap.size + 2 ≤ gb
  ne : gb ≠ xb
  nf : gb ∉ F

section
variable {w wr w' : World} {xb gb tb : Nat} {F : List Nat} {bs : List Int}
theorem Bk.pick (h : Bk w xb F gb wr bs) (ht : tb < w.heap.size) (g : wr.grownBy w' (some tb)) : Bk w xb F gb w' bs :=
  ⟨own_beneath h.own g (fun a b h1 h2 => by have := (h.own.lt a h1).1; simp at h2; omega), h.len, h.lo, h.ne, h.nf⟩
theorem Bk.new (h : Bk w xb F gb wr bs) (g : wr.grownBy w' none) : Bk w xb F gb w' bs := ⟨own_grown h.own g, h.len, h.lo, h.ne, h.nf⟩
theorem Bk.cell (h : Bk w xb F gb wr bs) (y : Nat) (hy : y < 64) : (∃ v, wr.cell? ⟨gb, y, none⟩ = some v) ∧ wr.frozen? ⟨gb, y, none⟩ = false :=
  ⟨by rw [h.own.cellAt y (by omega)]; exact ⟨_, List.getElem?_eq_getElem (by simp [h.len]; exact hy)⟩, h.own.frozenAt y⟩
theorem Bk.set (h : Bk w xb F gb wr bs) (y : Nat) (u : Int) : Bk w xb F gb (wr.setCell ⟨gb, y, none⟩ (.int .i64 u)) (bs.set y u) := by
  have st := (h.own.stored y (.int .i64 u)).1
  have e : (bs.map (Value.int .i64)).set y (.int .i64 u) = (bs.set y u).map (Value.int .i64) := by rw [List.map_set]
  rw [e] at st
  exact ⟨st, by rw [List.length_set]; exact h.len, h.lo, h.ne, h.nf⟩
end

/-- The shape of what is drawn. -/
def ShB (N : Nat) (M : Nat → Nat) (X : List (List (List Int))) : Prop := X.length = N ∧ ∀ c (hc : c < X.length), X[c].length = M c ∧ ∀ B ∈ X[c], B.length = 64
theorem shB_empty (N : Nat) (M : Nat → Nat) : ShB N M (emptyG N M) := by
  refine ⟨by simp [emptyG], fun c hc => ?_⟩
  simp only [emptyG, List.getElem_map, List.getElem_range, List.length_replicate]
  refine ⟨trivial, fun B hB => ?_⟩
  rw [List.eq_of_mem_replicate hB]
  simp [noughts]
theorem shB_set {N : Nat} {M : Nat → Nat} {X : List (List (List Int))} (h : ShB N M X) (i k : Nat) (hi : i < X.length) (bs : List Int) (hb : bs.length = 64) : ShB N M (X.set i (X[i].set k bs)) := by
  refine ⟨by rw [List.length_set]; exact h.1, fun c hc => ?_⟩
  have hc' : c < X.length := by rw [List.length_set] at hc; exact hc
  rw [List.getElem_set]
  split
  · rename_i e
    subst e
    refine ⟨by rw [List.length_set]; exact (h.2 i hi).1, fun B hB => ?_⟩
    rcases List.mem_or_eq_of_mem_set hB with hB | rfl
    · exact (h.2 i hi).2 B hB
    · exact hb
  · exact h.2 c hc'

/-- What is drawn has this shape, spoilt or not. -/
def Shape4 (X : List (List (List Int))) : Prop := X.length ≤ 4 ∧ ∀ P ∈ X, P.length ≤ 1090 ∧ ∀ B ∈ P, B.length ≤ 64
theorem shape4_sz {X : List (List (List Int))} (h : Shape4 X) : szCo X ≤ 300000 := by
  have h1 : ∀ P ∈ X, szR lenI P ≤ 1090 * 65 := fun P hP => by
    have h2 := szR_le lenI 64 P (fun B hB => (h.2 P hP).2 B hB)
    have h3 := Nat.mul_le_mul_right (64 + 1) (h.2 P hP).1
    omega
  have h4 := szR_le (szR lenI) (1090 * 65) X h1
  have h5 := Nat.mul_le_mul_right (1090 * 65 + 1) h.1
  unfold szCo
  omega
theorem shape4_of {N : Nat} {M : Nat → Nat} {X : List (List (List Int))} (h : ShB N M X) (hN : N ≤ 4) (hM : ∀ c, c < N → M c ≤ 1089) : Shape4 X := by
  refine ⟨by rw [h.1]; exact hN, fun P hP => ?_⟩
  obtain ⟨c, hc, rfl⟩ := List.mem_iff_getElem.1 hP
  obtain ⟨h1, h2⟩ := h.2 c hc
  refine ⟨by rw [h1]; have := hM c (by rw [← h.1]; exact hc); omega, fun B hB => by rw [h2 B hB]; exact Nat.le_refl _⟩
theorem shape4_set {X : List (List (List Int))} (h : Shape4 X) (i : Nat) (P : List (List Int)) (hP : P.length ≤ 1090 ∧ ∀ B ∈ P, B.length ≤ 64) : Shape4 (X.set i P) := by
  refine ⟨by rw [List.length_set]; exact h.1, fun Q hQ => ?_⟩
  rcases List.mem_or_eq_of_mem_set hQ with hQ | rfl
  · exact h.2 Q hQ
  · exact hP

end Go.Proofs.Ytibgldanmhckiaa

namespace Go.Proofs.Ytibgldanmhckiaa
open Go.RowKit

theorem lit_at {w w' : World} {row : Option Nat} {cs : Array Value} {t : TypeId} (g : (w.alloc (.cells cs t)).grownBy w' row) (hne : row ≠ some w.heap.size) (z : Nat) (hz : z < cs.size) (hint : ∀ v ∈ cs.toList, ∃ u : Int, v = .int .i64 u) : ∃ u : Int, w'.cell? ⟨w.heap.size, z, none⟩ = some (.int .i64 u) := by
  have hL := at_row g (heap_alloc_new w (.cells cs t)) hne
  rw [cell_of_row w' _ z _ _ (0, 0) hL]
  obtain ⟨u, hu⟩ := hint cs[z] (by simp)
  exact ⟨u, by rw [Array.getElem?_eq_getElem hz, hu]⟩

set_option maxRecDepth 20000 in
set_option maxHeartbeats 6400000 in
theorem drawCoefs (tb : Nat) (ao : Option Addr) (n cap p0 : Nat) (zs : List Int) (w : World) (h : Cur w tb ao n cap zs p0) (hp : p0 ≤ 1000000) (p wd ht rs : Int) (fo : Option Addr) (fn fc : Nat) (C : Nat → Nat → Int) (fb0 : Nat) (hfo : w.ownsRow fb0 70 4 (.slice fo fn fc) fn (rowsK fn 4 (compCells C))) (hfb : tb < fb0) (kk : Int) (hkk : 2 ≤ kk ∧ kk ≤ 2147483648) :
    Calls Try.prog 37 #[.pointer (some ⟨tb, 0, none⟩), .agg #[.int .i64 p, .int .i64 wd, .int .i64 ht, .int .i64 rs, .slice fo fn fc], .int .i64 kk] w fun e w' => ∃ (pv : Value) (X : List (List (List Int))) (F : List Nat) (q : Nat), e = .returned (.agg #[pv]) ∧ Ow3 w' pv X F ∧ F.Nodup ∧ (∀ g ∈ F, w.heap.size ≤ g) ∧ Shape4 X ∧ Cur w' tb ao n cap zs q ∧ q ≤ p0 + 400000 ∧ w.grownBy w' (some tb) := by
  have htb := h.lt
  have hcode := h.rd.lt
  obtain ⟨i0, hi, hz0, hz1, hz2⟩ := info_parts info_i11
  obtain ⟨fb, HFB⟩ : ∃ fb, Hid (frameB p wd ht rs fn C = fb) := ⟨_, rfl⟩
  obtain ⟨X0, HX0⟩ : ∃ X0, Hid (emptyF fb wd ht fn C = X0) := ⟨_, rfl⟩
  obtain ⟨W2, HW2⟩ : ∃ W2, Hid (((w.alloc (.cells #[.int .i64 p, .int .i64 wd, .int .i64 ht, .int .i64 rs, .slice fo fn fc] 26)).alloc (.cells #[.slice none 0 0] 29)) = W2) := ⟨_, rfl⟩
  have G0 : w.grownBy W2 none := by rw [← unhide HW2]; exact grown_alloc (grown_alloc (World.grownBy.refl _ _) _) _
  have hsz2 : W2.heap.size = w.heap.size + 2 := by rw [← unhide HW2]; simp
  have B0 : W2.heap[w.heap.size]? = some (.cells #[.int .i64 p, .int .i64 wd, .int .i64 ht, .int .i64 rs, .slice fo fn fc] 26 (0, 0)) := by
    rw [← unhide HW2]
    exact at_row (World.grownBy_alloc _ _ none) (heap_alloc_new w _) (by simp)
  have B1 : W2.heap[w.heap.size + 1]? = some (.cells #[.slice none 0 0] 29 (0, 0)) := by
    rw [← unhide HW2]
    have := heap_alloc_new (w.alloc (.cells #[.int .i64 p, .int .i64 wd, .int .i64 ht, .int .i64 rs, .slice fo fn fc] 26)) (.cells #[.slice none 0 0] 29)
    simpa using this
  have HE := hide (specEmpty p wd ht rs fo fn fc C W2 ((own_rdC hfo).grown G0) fb HFB X0 HX0)
  have HB0 := hide B0
  have HB1 := hide B1
  have HG0 := hide G0
  have HH := hide h
  have HFO := hide hfo
  have HS := hide hsz2
  have HCODE := hide hcode
  clear h hfo hcode B0 B1 G0 hsz2
  go_enter Try.func37, Try.ntmps37
  go_wp2_with fail
  rw [unhide HW2]
  clear HW2
  refine (unhide HE).mono ?_
  rintro e w1 ⟨u, F0, rfl, ho, hn, hl, g1⟩
  obtain ⟨pv, rfl, ho⟩ := ho
  obtain ⟨po, pc, rfl⟩ := OwR.form ho
  obtain ⟨xb, hxb⟩ : ∃ xb, w1.heap.size = xb := ⟨_, rfl⟩
  have gA : w.grownBy w1 none := grown_trans (unhide HG0) g1
  have gB : w1.grownBy (w1.alloc (.cells #[.slice po X0.length pc] 29)) none := World.grownBy_alloc _ _ _
  have gC := grown_trans gA gB
  have hxl : w.heap.size + 2 ≤ xb := by have := g1.size; have := unhide HS; omega
  have HSX : Hid (Sx w tb xb fb0 fo fn fc ao n) := ⟨htb, hfb, hxl, unhide HCODE, fun g e => ((unhide HFO).lt g e).2⟩
  have HD : Hid (Dk w tb xb fb0 p wd ht rs fo fn fc C ao n cap zs (.slice po X0.length pc) (w1.alloc (.cells #[.slice po X0.length pc] 29)) X0 F0 p0) := by
    have hn1 := heap_alloc_new w1 (.cells #[.slice po X0.length pc] 29)
    rw [hxb] at hn1
    refine ⟨ok3.keep ho gB, hn, fun g hg => ?_, hn1, at_row (grown_trans g1 gB) (unhide HB0) (by simp), at_row (grown_trans g1 gB) (unhide HB1) (by simp), own_grown (unhide HFO) gC, (unhide HH).grown gC, grown_any gC⟩
    have h1 := hl g hg
    have h2 := ok3.lt _ _ _ _ ho g hg
    have := unhide HS
    exact ⟨by omega, by omega⟩
  have HSH : Hid (ShB X0.length (fun c => bwG wd fn C c * bhG ht fn C c) X0) := by
    unfold Hid
    rw [← unhide HX0, emptyF]
    cases fb with
    | false => exact ⟨rfl, fun c hc => absurd hc (by simp)⟩
    | true =>
      rw [if_pos rfl]
      have e : (emptyG fn (fun c => bwG wd fn C c * bhG ht fn C c)).length = fn := by simp [emptyG]
      rw [e]
      exact shB_empty _ _
  have HX4 : Hid (X0.length ≤ 4) := by have := (shape_empty (wd := wd) (ht := ht) (unhide HFB)).1; rw [unhide HX0] at this; exact this
  have HGEO : Hid (0 < X0.length → X0.length = fn ∧ Geo wd ht fn C (mostA 1 C 1 fn) (mostA 1 C 2 fn)) := by
    intro h0
    have hx := unhide HX0
    cases fb with
    | false => rw [← hx] at h0; simp [emptyF] at h0
    | true => exact ⟨by rw [← hx]; simp [emptyF, emptyG], geo_of (unhide HFB)⟩
  obtain ⟨M, HM⟩ : ∃ M : Nat → Nat, Hid ((fun c => bwG wd fn C c * bhG ht fn C c) = M) := ⟨_, rfl⟩
  rw [unhide HM] at HSH
  have c0 : (w1.alloc (.cells #[.slice po X0.length pc] 29)).cell? ⟨xb, 0, none⟩ = some (.slice po X0.length pc) := by rw [cell_of_row _ xb 0 _ _ (0, 0) (unhide HD).bx]; rfl
  obtain ⟨N, HNX⟩ : ∃ N, Hid (X0.length = N) := ⟨_, rfl⟩
  rw [unhide HNX] at HD HSH HX4 HGEO c0 ⊢
  clear ho hl g1 gA gB gC HE HB0 HB1 HG0 HH HFO HS HCODE HFB HX0 hn
  go_wp2
  clear c0
  go_loopw [8] (fun iv wr => ∃ (i : Nat) (X : List (List (List Int))) (F : List Nat) (q : Nat), i ≤ N ∧ iv = .int .i64 i ∧ Hid (Dk w tb xb fb0 p wd ht rs fo fn fc C ao n cap zs (.slice po N pc) wr X F q) ∧ Hid (ShB N M X) ∧ Hid (q ≤ p0 + 98100 * i)) (fun iv _ => N - (intOf iv).toNat)
  case atStart => exact ⟨0, X0, F0, p0, Nat.zero_le _, rfl, HD, HSH, by unfold Hid; omega⟩
  case round =>
    clear HD HSH
    obtain ⟨i, X, F, q, hiN, rfl, hD, hSH, hq⟩ := hrel
    have c0 : wr.cell? ⟨xb, 0, none⟩ = some (.slice po N pc) := by rw [cell_of_row _ xb 0 _ _ (0, 0) (unhide hD).bx]; rfl
    by_cases hlt : i < N
    · have hd1 : decide ((i : Int) < (N : Int)) = true := decide_eq_true (by omega)
      have hN4 := unhide HX4
      obtain ⟨hNf, hgeo⟩ := unhide HGEO (by omega)
      have hic : i < fn := by omega
      have hdm := dims_of hgeo i hic
      have HT := hide (specBlocks p wd ht rs fo fn fc C wr (own_rdC (unhide hD).fow) _ _ hgeo i hic _ _ rfl rfl)
      rw [hdm.bw, hdm.bh] at HT
      have hbw := hdm.bw1
      have hMi : M i ≤ 1089 := by rw [← unhide HM]; exact dims33 hgeo i hic
      have HGE := hide hgeo
      obtain ⟨Mi, HMI⟩ : ∃ Mi, Hid (M i = Mi) := ⟨_, rfl⟩
      rw [unhide HMI] at hMi
      obtain ⟨bw, HBW⟩ : ∃ bw, Hid (bwG wd fn C i = bw) := ⟨_, rfl⟩
      obtain ⟨bh, HBH⟩ : ∃ bh, Hid (bhG ht fn C i = bh) := ⟨_, rfl⟩
      rw [unhide HBW, unhide HBH] at HT
      rw [unhide HBW] at hbw
      obtain ⟨f0, f1, f2, f3, f4⟩ := frameCells' (unhide hD).fx
      clear hgeo hdm HBH hNf
      go_wp2_with fail
      refine (unhide HT).mono ?_
      rintro e w2 ⟨rfl, g2⟩
      have HD2 := hide ((unhide hD).new (unhide HSX) g2)
      clear g2 hD HT f0 f1 f2 f3 f4 c0
      go_wp2
      go_loopw [11] (fun kv wr => ∃ (k : Nat) (X : List (List (List Int))) (F : List Nat) (q : Nat), k ≤ Mi ∧ kv = .int .i64 k ∧ Hid (Dk w tb xb fb0 p wd ht rs fo fn fc C ao n cap zs (.slice po N pc) wr X F q) ∧ Hid (ShB N M X) ∧ Hid (q ≤ p0 + 98100 * i + 90 * k)) (fun kv _ => Mi - (intOf kv).toNat)
      case atStart => exact ⟨0, X, F, q, Nat.zero_le _, rfl, HD2, hSH, by have := unhide hq; unfold Hid; omega⟩
      case round =>
        clear HD2 hSH hq
        obtain ⟨k, X, F, q, hkM, rfl, hD, hSH, hq⟩ := hrel
        have hXi : i < X.length := by have := (unhide hSH).1; omega
        obtain ⟨g1, c1, go, gc, e1, cpl⟩ := (unhide hD).plane i hXi
        obtain ⟨rfl, -, -⟩ := Value.slice.inj e1
        have hlen : X[i].length = Mi := by rw [((unhide hSH).2 i hXi).1]; exact unhide HMI
        rw [hlen] at cpl
        have c0 : wr.cell? ⟨xb, 0, none⟩ = some (.slice (some ⟨g1, 0, none⟩) N pc) := by rw [cell_of_row _ xb 0 _ _ (0, 0) (unhide hD).bx]; rfl
        have HLEN := hide hlen
        clear e1 hlen
        by_cases hkl : k < Mi
        · have hd2 : decide ((k : Int) < (Mi : Int)) = true := decide_eq_true (by omega)
          obtain ⟨f0, f1, f2, f3, f4⟩ := frameCells' (unhide hD).fx
          obtain ⟨kr, HKR⟩ : ∃ kr, Hid (k / bw = kr) := ⟨_, rfl⟩
          obtain ⟨kc, HKC⟩ : ∃ kc, Hid (k % bw = kc) := ⟨_, rfl⟩
          have e5 : (k : Int).tdiv (bw : Int) = (kr : Int) := by rw [Int.tdiv_eq_ediv_of_nonneg (by omega), ← unhide HKR]; simp
          have e6 : (k : Int).tmod (bw : Int) = (kc : Int) := by rw [Int.tmod_eq_emod_of_nonneg (by omega), ← unhide HKC]; simp
          have hkr : kr ≤ k := by rw [← unhide HKR]; exact Nat.div_le_self _ _
          have hkc : kc ≤ k := by rw [← unhide HKC]; exact Nat.mod_le _ _
          have e7 := i64_in (kr : Int) (by omega)
          have e8 := i64_in (kc : Int) (by omega)
          have hb0 : ((bw : Int) == 0) = false := beq_false_of_ne (by omega)
          have hb1 : ((bw : Int) == -1) = false := beq_false_of_ne (by omega)
          have hbz : ¬ bw = 0 := by omega
          obtain ⟨hid, HHD⟩ : ∃ hid, Hid (hiddenI wd ht fn C i (kr : Int) (kc : Int) = hid) := ⟨_, rfl⟩
          have HDD := hide ((unhide hD).new (unhide HSX) (grown_drew (World.grownBy.refl wr none)))
          have HHID := hide (specHidden p wd ht rs fo fn fc C wr.drew (own_rdC (unhide HDD).fow) (unhide HGE) i hic (kr : Int) (kc : Int) hid HHD)
          have KEEP : Hid (∀ W X F q, Dk w tb xb fb0 p wd ht rs fo fn fc C ao n cap zs (.slice (some ⟨g1, 0, none⟩) N pc) W X F q → W.cell? ⟨w.heap.size, 0, none⟩ = some (.int .i64 p) ∧ W.cell? ⟨w.heap.size, 1, none⟩ = some (.int .i64 wd) ∧ W.cell? ⟨w.heap.size, 2, none⟩ = some (.int .i64 ht) ∧ W.cell? ⟨w.heap.size, 3, none⟩ = some (.int .i64 rs) ∧ W.cell? ⟨w.heap.size, 4, none⟩ = some (.slice fo fn fc)) := fun W X F q hh => frameCells' hh.fx
          clear HKR HKC HHD hD
          go_wp2
          refine wp_region_noPanic ?_
          refine wp_region_tail (fun w' => w'.cell? ⟨w.heap.size, 0, none⟩ = some (.int .i64 p) ∧ w'.cell? ⟨w.heap.size, 1, none⟩ = some (.int .i64 wd) ∧ w'.cell? ⟨w.heap.size, 2, none⟩ = some (.int .i64 ht) ∧ w'.cell? ⟨w.heap.size, 3, none⟩ = some (.int .i64 rs) ∧ w'.cell? ⟨w.heap.size, 4, none⟩ = some (.slice fo fn fc)) [true, true, true, true, true, true, true, true, true, false, false, false, false, false, false, false] (by kernel_rfl) (fun _ _ _ _ _ h => h) rfl (by kernel_rfl) ⟨f0, f1, f2, f3, f4⟩ ?_
          iterate 9
            refine heldF_take (v := ?_) (Or.inl ⟨by rfl, ?_⟩) ?_
            rotate_left 1
            · intro w' hSw
              try dsimp only at hSw
              obtain ⟨z0, z1, z2, z3, z4⟩ := hSw
              go_simp
              try with_reducible rfl
            simp only [Act.put, List.setIfInBounds_toArray, List.set_cons_zero, List.set_cons_succ]
          iterate 7 refine heldF_skip ?_
          refine heldF_nil ?_
          iterate 9 refine tailF_skip ?_
          refine tailF_step (fun K hK => ?_)
          go_simp
          refine (unhide HHID).mono ?_
          rintro e w3 ⟨rfl, g3⟩
          have HD3 := hide ((unhide HDD).new (unhide HSX) g3)
          have HS3 := hide (unhide KEEP _ _ _ _ (unhide HD3))
          clear g3 HHID HDD f0 f1 f2 f3 f4
          refine hK.out _ _ (unhide HS3) ?_
          clear hK K
          iterate 2
            refine tailF_step (fun K hK => ?_)
            go_simp
            refine hK.out _ _ (unhide HS3) ?_
            clear hK K
          cases hid with
          | true =>
            iterate 4
              refine tailF_step (fun K hK => ?_)
              go_simp
              refine hK.out _ _ (unhide HS3) ?_
              clear hK K
            refine tailF_nil (NoPanic.normal ?_)
            clear c0 cpl
            go_wp2
            go_roundw
            case rel => exact ⟨k + 1, X, F, q, by omega, by go_num, HD3, hSH, by have := unhide hq; unfold Hid; omega⟩
            case measure => simp [intOf]; omega
          | false =>
            refine tailF_step (fun K hK => ?_)
            go_simp
            refine hK.out _ _ (unhide HS3) ?_
            clear hK K
            refine tailF_step (fun K hK => ?_)
            go_simp
            refine (pick_of tb ao n cap q 3 zs w3 (unhide HD3).cur (by have := unhide hq; have := unhide HX4; omega) (by omega) (by omega)).mono ?_
            rintro e w4 ⟨x, q4, rfl, hx0, hx1, hc4, hq4, g4⟩
            have HD4 := hide ((unhide HD3).pick (unhide HSX) hc4 g4)
            have HS4 := hide (unhide KEEP _ _ _ _ (unhide HD4))
            clear hc4 g4 HD3 HS3
            refine hK.out _ _ (unhide HS4) ?_
            clear hK K
            iterate 2
              refine tailF_step (fun K hK => ?_)
              go_simp
              refine hK.out _ _ (unhide HS4) ?_
              clear hK K
            refine tailF_nil (NoPanic.normal ?_)
            clear c0 cpl HS4 KEEP
            by_cases hx : x = 0
            · subst hx
              go_wp2
              go_roundw
              case rel => exact ⟨k + 1, X, F, q4, by omega, by go_num, HD4, hSH, by have := unhide hq; unfold Hid; omega⟩
              case measure => simp [intOf]; omega
            · have hdx : decide ((0 : Int) < x) = true := decide_eq_true (by omega)
              have hs4 := (unhide HD4).size
              have hxl2 : xb < w4.heap.size := hs4.1
              have HNF : Hid (w4.heap.size ∉ F) := fun e => by have := hs4.2 _ e; omega
              have hgs : w.heap.size + 2 ≤ w4.heap.size := by omega
              clear hs4
              go_wp2_with (at_make; refine wpList_make_full _ rfl _ _ 32 rfl (w.heap.size + 2) 3 i0 (.int .i64 0) 1 Try.underlying32 hi hz0 hz1 .i64 .i64 _ _ 64 rfl rfl rfl rfl (by rw [hz2]; omega) (by unfold maxLen; omega) hgs ?_)
              intro w5 hown hgrow
              have HB5 : Hid (Bk w xb F w4.heap.size w5 (List.replicate 64 0)) := ⟨by rw [toList_madeCells_one] at hown; rw [List.map_replicate]; exact hown, by simp, hgs, by omega, unhide HNF⟩
              have HD5 := hide ((unhide HD4).new (unhide HSX) hgrow)
              obtain ⟨gb, HGB⟩ : ∃ gb, Hid (w4.heap.size = gb) := ⟨_, rfl⟩
              rw [unhide HGB] at HB5 ⊢
              clear hown hgrow HD4 HNF hgs hxl2 HGB
              have q4b : q4 ≤ p0 + 98100 * i + 90 * k + 2 := by have := unhide hq; omega
              have hk9 : k ≤ 1089 := by omega
              go_wp2_with fail
              refine (pick_of tb ao n cap q4 400 zs w5 (unhide HD5).cur (by omega) (by omega) (by omega)).mono ?_
              rintro e w6 ⟨x6, q6, rfl, hx60, hx61, hc6, hq6, g6⟩
              have HD6 := hide ((unhide HD5).pick (unhide HSX) hc6 g6)
              have HB6 := hide ((unhide HB5).pick htb g6)
              obtain ⟨⟨v6, cv6⟩, fv6⟩ := (unhide HB6).cell 0 (by omega)
              have e9 := i64_in (x6 - 200) (by omega)
              have HD7 := hide ((unhide HD6).side (unhide HSX) (grown_set w6 gb 0 (.int .i64 (x6 - 200))) (unhide HB6).lo (unhide HB6).ne (unhide HB6).nf)
              have HB7 := hide ((unhide HB6).set 0 (x6 - 200))
              obtain ⟨bs7, HBS7⟩ : ∃ bs7, Hid ((List.replicate 64 (0 : Int)).set 0 (x6 - 200) = bs7) := ⟨_, rfl⟩
              rw [unhide HBS7] at HB7
              clear hc6 g6 HD5 HB5 HD6 HB6 HBS7
              go_wp2_with fail
              refine (size_of tb ao n cap q6 9 zs _ (unhide HD7).cur (by omega) (by omega) (by omega)).mono ?_
              rintro e w8 ⟨j0, q8, rfl, hj0, hj1, hc8, hq8, g8⟩
              obtain ⟨j0, rfl⟩ := Int.eq_ofNat_of_zero_le hj0
              have HD8 := hide ((unhide HD7).pick (unhide HSX) hc8 g8)
              have HB8 := hide ((unhide HB7).pick htb g8)
              clear hc8 g8 HD7 HB7 cv6 fv6
              go_wp2
              go_loopw [13] (fun jv wr => ∃ (j : Nat) (bs : List Int) (q : Nat), j ≤ 9 ∧ jv = .int .i64 j ∧ Hid (Dk w tb xb fb0 p wd ht rs fo fn fc C ao n cap zs (.slice (some ⟨g1, 0, none⟩) N pc) wr X F q) ∧ Hid (Bk w xb F gb wr bs) ∧ q + 8 * j ≤ q8 + 72) (fun jv _ => (intOf jv).toNat)
              case atStart => exact ⟨j0, _, q8, by omega, rfl, HD8, HB8, by omega⟩
              case round =>
                clear HD8 HB8
                obtain ⟨j, bs, qj, hj9, rfl, hDj, hBj, hqj⟩ := hrel
                cases j with
                | zero =>
                  have hd9 : decide ((0 : Int) < ((0 : Nat) : Int)) = false := by decide
                  go_wp2_with fail
                  refine (once_of tb ao n cap qj 20 zs wr (unhide hDj).cur (by omega) (by omega) (by omega)).mono ?_
                  rintro e wa ⟨t, qa, rfl, hca, hqa, ga⟩
                  have HDa := hide ((unhide hDj).pick (unhide HSX) hca ga)
                  have HBa := hide ((unhide hBj).pick htb ga)
                  clear hca ga hDj hBj
                  cases t with
                  | false =>
                    obtain ⟨g1', c1', g2, c2, zv, e1', s1, s2, s3, F', hDz⟩ := (unhide HDa).store (unhide HSX) i k hXi (by rw [unhide HLEN]; exact hkl) (bs := bs) (by rw [(unhide HBa).len]; exact (unhide HBa).own) (unhide HBa).lo (unhide HBa).ne (unhide HBa).nf
                    obtain ⟨e2', -, -⟩ := Value.slice.inj e1'
                    obtain rfl : g1 = g1' := by simpa using e2'
                    have c0 : wa.cell? ⟨xb, 0, none⟩ = some (.slice (some ⟨g1, 0, none⟩) N pc) := by rw [cell_of_row _ xb 0 _ _ (0, 0) (unhide HDa).bx]; rfl
                    rw [unhide HLEN] at s1
                    rw [(unhide HBa).len] at hDz
                    have HZ := hide hDz
                    have HSZ := hide (shB_set (unhide hSH) i k hXi bs (unhide HBa).len)
                    clear hDz e1' e2' HDa HBa
                    go_wp2
                    go_roundw
                    case rel => exact ⟨k + 1, _, F', qa, by omega, by go_num, HZ, HSZ, by unfold Hid; omega⟩
                    case measure => simp [intOf]; omega
                  | true =>
                    go_wp2_with fail
                    refine (pick_of tb ao n cap qa 64 zs wa (unhide HDa).cur (by omega) (by omega) (by omega)).mono ?_
                    rintro e wb ⟨y, qb, rfl, hy0, hy1, hcb, hqb, gbb⟩
                    obtain ⟨y, rfl⟩ := Int.eq_ofNat_of_zero_le hy0
                    have gal := World.grownBy_alloc wb (.cells #[.int .i64 16383, .int .i64 (-16383)] 3) none
                    have HDb := hide (((unhide HDa).pick (unhide HSX) hcb gbb).new (unhide HSX) gal)
                    have HBb := hide (((unhide HBa).pick htb gbb).new gal)
                    have hwb : tb < wb.heap.size := hcb.lt
                    clear hcb gbb gal HDa HBa
                    go_wp2_with fail
                    refine (pick_of tb ao n cap qb 2 zs _ (unhide HDb).cur (by omega) (by omega) (by omega)).mono ?_
                    rintro e wc ⟨z, qc, rfl, hzz0, hzz1, hcc, hqc, gcc⟩
                    obtain ⟨z, rfl⟩ := Int.eq_ofNat_of_zero_le hzz0
                    obtain ⟨u, hu⟩ := lit_at gcc (by simp; omega) z (by simp; omega) (by intro v hv; simp at hv; rcases hv with rfl | rfl <;> exact ⟨_, rfl⟩)
                    have HDc := hide ((unhide HDb).pick (unhide HSX) hcc gcc)
                    have HBc := hide ((unhide HBb).pick htb gcc)
                    obtain ⟨⟨vv, cvv⟩, fvv⟩ := (unhide HBc).cell y (by omega)
                    have HDd := hide ((unhide HDc).side (unhide HSX) (grown_set wc gb y (.int .i64 u)) (unhide HBc).lo (unhide HBc).ne (unhide HBc).nf)
                    have HBd := hide ((unhide HBc).set y u)
                    clear hcc gcc HDb HBb HDc HBc
                    obtain ⟨g1', c1', g2, c2, zv, e1', s1, s2, s3, F', hDz⟩ := (unhide HDd).store (unhide HSX) i k hXi (by rw [unhide HLEN]; exact hkl) (bs := (bs.set y u)) (by rw [(unhide HBd).len]; exact (unhide HBd).own) (unhide HBd).lo (unhide HBd).ne (unhide HBd).nf
                    obtain ⟨e2', -, -⟩ := Value.slice.inj e1'
                    obtain rfl : g1 = g1' := by simpa using e2'
                    have c0 : (wc.setCell ⟨gb, y, none⟩ (.int .i64 u)).cell? ⟨xb, 0, none⟩ = some (.slice (some ⟨g1, 0, none⟩) N pc) := by rw [cell_of_row _ xb 0 _ _ (0, 0) (unhide HDd).bx]; rfl
                    rw [unhide HLEN] at s1
                    rw [(unhide HBd).len] at hDz
                    have HZ := hide hDz
                    have HSZ := hide (shB_set (unhide hSH) i k hXi (bs.set y u) (unhide HBd).len)
                    clear hDz e1' e2' HDd HBd
                    go_wp2
                    go_roundw
                    case rel => exact ⟨k + 1, _, F', qc, by omega, by go_num, HZ, HSZ, by unfold Hid; omega⟩
                    case measure => simp [intOf]; omega
                | succ j =>
                  have ej : ((j + 1 : Nat) : Int) = (j : Int) + 1 := by omega
                  rw [ej]
                  have hd9 : decide ((0 : Int) < (j : Int) + 1) = true := decide_eq_true (by omega)
                  have e10 := i64_in ((j : Int) + 1 - 1) (by omega)
                  go_wp2_with fail
                  refine (pick_of tb ao n cap qj 64 zs wr (unhide hDj).cur (by omega) (by omega) (by omega)).mono ?_
                  rintro e wa ⟨y, qa, rfl, hy0, hy1, hca, hqa, ga⟩
                  obtain ⟨y, rfl⟩ := Int.eq_ofNat_of_zero_le hy0
                  have HDa := hide ((unhide hDj).pick (unhide HSX) hca ga)
                  have HBa := hide ((unhide hBj).pick htb ga)
                  clear hca ga hDj hBj
                  go_wp2_with fail
                  refine (pick_of tb ao n cap qa 40 zs wa (unhide HDa).cur (by omega) (by omega) (by omega)).mono ?_
                  rintro e wb ⟨s, qb, rfl, hs0, hs1, hcb, hqb, gbb⟩
                  have HDb := hide ((unhide HDa).pick (unhide HSX) hcb gbb)
                  have HBb := hide ((unhide HBa).pick htb gbb)
                  have e11 := i64_in (s - 20) (by omega)
                  clear hcb gbb HDa HBa
                  go_wp2_with fail
                  refine (pick_of tb ao n cap qb 400 zs wb (unhide HDb).cur (by omega) (by omega) (by omega)).mono ?_
                  rintro e wc ⟨r, qc, rfl, hr0, hr1, hcc, hqc, gcc⟩
                  have e12 := i64_in (r - 200) (by omega)
                  have gal := World.grownBy_alloc wc (.cells #[.int .i64 1, .int .i64 (-1), .int .i64 2, .int .i64 (s - 20), .int .i64 (r - 200)] 3) none
                  have HDc := hide (((unhide HDb).pick (unhide HSX) hcc gcc).new (unhide HSX) gal)
                  have HBc := hide (((unhide HBb).pick htb gcc).new gal)
                  have hwc : tb < wc.heap.size := hcc.lt
                  clear hcc gcc gal HDb HBb
                  go_wp2_with fail
                  refine (pick_of tb ao n cap qc 5 zs _ (unhide HDc).cur (by omega) (by omega) (by omega)).mono ?_
                  rintro e wd' ⟨z, qd, rfl, hzz0, hzz1, hcd, hqd, gdd⟩
                  obtain ⟨z, rfl⟩ := Int.eq_ofNat_of_zero_le hzz0
                  obtain ⟨u, hu⟩ := lit_at gdd (by simp; omega) z (by simp; omega) (by intro v hv; simp at hv; rcases hv with rfl | rfl | rfl | rfl | rfl <;> exact ⟨_, rfl⟩)
                  have HDd := hide ((unhide HDc).pick (unhide HSX) hcd gdd)
                  have HBd := hide ((unhide HBc).pick htb gdd)
                  obtain ⟨⟨vv, cvv⟩, fvv⟩ := (unhide HBd).cell y (by omega)
                  have HDe := hide ((unhide HDd).side (unhide HSX) (grown_set wd' gb y (.int .i64 u)) (unhide HBd).lo (unhide HBd).ne (unhide HBd).nf)
                  have HBe := hide ((unhide HBd).set y u)
                  clear hcd gdd HDc HBc HDd HBd
                  go_wp2
                  go_roundw
                  case rel => exact ⟨j, _, qd, by omega, by go_num, HDe, HBe, by omega⟩
                  case measure => simp [intOf]
        · obtain rfl : k = Mi := by omega
          have hd2 : decide ((k : Int) < (k : Int)) = false := decide_eq_false (by omega)
          go_wp2
          go_roundw
          case rel => exact ⟨i + 1, X, F, q, by omega, by go_num, hD, hSH, by have := unhide hq; unfold Hid; omega⟩
          case measure => simp [intOf]; omega
    · obtain rfl : N = i := by omega
      have hd1 : decide ((N : Int) < (N : Int)) = false := decide_eq_false (by omega)
      have hN4 := unhide HX4
      have hM9 : ∀ c, c < N → 1 ≤ M c ∧ M c ≤ 1089 := by
        intro c hc
        obtain ⟨hNf, hgeo⟩ := unhide HGEO (by omega)
        have hd := dims_of hgeo c (by omega)
        rw [← unhide HM]
        exact ⟨Nat.mul_pos hd.bw1.1 hd.bh1.1, dims33 hgeo c (by omega)⟩
      have HS4 : Hid (Shape4 X) := shape4_of (unhide hSH) hN4 (fun c hc => (hM9 c hc).2)
      have HM9 := hide hM9
      have hqq : q ≤ p0 + 392400 := by have := unhide hq; omega
      have HEND : Hid (∀ (W : World) (X' : List (List (List Int))) (F' : List Nat) (q' : Nat), Dk w tb xb fb0 p wd ht rs fo fn fc C ao n cap zs (.slice po N pc) W X' F' q' → Shape4 X' → q' ≤ p0 + 400000 → W.cell? ⟨xb, 0, none⟩ = some (.slice po N pc) ∧ W.cell? ⟨w.heap.size + 1, 0, none⟩ = some (.slice none 0 0) ∧ W.frozen? ⟨w.heap.size + 1, 0, none⟩ = false ∧ (W.setCell ⟨w.heap.size + 1, 0, none⟩ (.slice po N pc)).cell? ⟨w.heap.size + 1, 0, none⟩ = some (.slice po N pc) ∧ (∃ (X : List (List (List Int))) (F : List Nat) (q : Nat), Ow3 (W.setCell ⟨w.heap.size + 1, 0, none⟩ (.slice po N pc)) (.slice po N pc) X F ∧ F.Nodup ∧ (∀ g ∈ F, w.heap.size ≤ g) ∧ Shape4 X ∧ Cur (W.setCell ⟨w.heap.size + 1, 0, none⟩ (.slice po N pc)) tb ao n cap zs q ∧ q ≤ p0 + 400000 ∧ w.grownBy (W.setCell ⟨w.heap.size + 1, 0, none⟩ (.slice po N pc)) (some tb))) := by
        intro W X' F' q' hd hs hb
        have gs := grown_set W (w.heap.size + 1) 0 (.slice po N pc)
        refine ⟨by rw [cell_of_row _ xb 0 _ _ (0, 0) hd.bx]; rfl, by rw [cell_of_row _ _ 0 _ _ (0, 0) hd.rx]; rfl, frozen_of_row W _ 0 _ _ hd.rx, by rw [cell_of_row _ _ 0 _ _ (0, 0) (heap_setCell_same W _ 0 _ _ _ hd.rx)]; rfl, X', F', q', ?_, hd.nd, fun g hg => by have := (hd.lo g hg).1; omega, hs, ?_, hb, ?_⟩
        · exact ok3.wr hd.own (Wr.ofRow (F := [w.heap.size + 1]) gs (fun x e => by simp at e; simp [e])) (fun x hx e => by simp at e; have := (hd.lo x hx).1; omega)
        · exact hd.cur.beside gs (fun k e => by
            have e9 : w.heap.size + 1 = k := Option.some.inj e
            exact ⟨by omega, fun hn b off e2 => by have := (unhide HSX).code hn b off e2; omega⟩)
        · exact grown_newR hd.grown gs (fun k e => by have e9 : w.heap.size + 1 = k := Option.some.inj e; omega)
      clear hM9 hq
      go_wp2_with fail
      refine (once_of tb ao n cap q kk zs wr (unhide hD).cur (by omega) hkk.1 hkk.2).mono ?_
      rintro e w3 ⟨t, q3, rfl, hc3, hq3, g3⟩
      have HD3 := hide ((unhide hD).pick (unhide HSX) hc3 g3)
      have c3 : w3.cell? ⟨xb, 0, none⟩ = some (.slice po N pc) := by rw [cell_of_row _ xb 0 _ _ (0, 0) (unhide HD3).bx]; rfl
      clear hc3 g3 hD c0
      cases t with
      | false =>
        obtain ⟨k0, k1, k2, k3, kE⟩ := unhide HEND _ _ _ _ (unhide HD3) (unhide HS4) (by omega)
        have HKE := hide kE
        have K3 := hide k3
        clear kE k3 HD3
        go_wp2
        refine bodyPost_ret (v := .agg #[.slice po N pc]) (by have hcc := unhide K3; simp [results, Try.results37, go_sem, hcc]) rfl ?_
        obtain ⟨X9, F9, q9, h9⟩ := unhide HKE
        exact ⟨_, X9, F9, q9, rfl, h9⟩
      | true =>
        rcases Nat.eq_zero_or_pos N with h0 | h0
        · subst h0
          obtain ⟨k0, k1, k2, k3, kE⟩ := unhide HEND _ _ _ _ (unhide HD3) (unhide HS4) (by omega)
          have HKE := hide kE
          have K3 := hide k3
          clear kE k3 HD3
          go_wp2
          refine bodyPost_ret (v := .agg #[.slice po 0 pc]) (by have hcc := unhide K3; simp [results, Try.results37, go_sem, hcc]) rfl ?_
          obtain ⟨X9, F9, q9, h9⟩ := unhide HKE
          exact ⟨_, X9, F9, q9, rfl, h9⟩
        · have hd0 : decide ((0 : Int) < (N : Int)) = true := decide_eq_true (by omega)
          obtain ⟨g1, c1, go, gc, e1, -⟩ := (unhide HD3).plane 0 (by have := (unhide hSH).1; omega)
          obtain ⟨rfl, -, -⟩ := Value.slice.inj e1
          clear e1
          go_wp2_with fail
          refine (pick_any tb ao n cap q3 (N : Int) zs w3 (unhide HD3).cur (by omega) (by omega) (by omega)).mono ?_
          rintro e w4 ⟨ii, q4, rfl, hii0, hii1, hc4, hq4, g4⟩
          obtain ⟨ii, rfl⟩ := Int.eq_ofNat_of_zero_le hii0
          have HD4 := hide ((unhide HD3).pick (unhide HSX) hc4 g4)
          have c4 : w4.cell? ⟨xb, 0, none⟩ = some (.slice (some ⟨g1, 0, none⟩) N pc) := by rw [cell_of_row _ xb 0 _ _ (0, 0) (unhide HD4).bx]; rfl
          have hXi : ii < X.length := by have := (unhide hSH).1; omega
          obtain ⟨g1', c1', go', gc', e1, cpl⟩ := (unhide HD4).plane ii hXi
          obtain ⟨e2, -, -⟩ := Value.slice.inj e1
          obtain rfl : g1 = g1' := by simpa using e2
          have hlen : X[ii].length = M ii := ((unhide hSH).2 ii hXi).1
          have hMi := unhide HM9 ii (by omega)
          obtain ⟨Mi, HMI⟩ : ∃ Mi, Hid (M ii = Mi) := ⟨_, rfl⟩
          rw [unhide HMI] at hlen hMi
          rw [hlen] at cpl
          have HLEN := hide hlen
          clear hc4 g4 HD3 c3 e1 e2 hlen
          go_wp2_with fail
          refine (pick_any tb ao n cap q4 (Mi : Int) zs w4 (unhide HD4).cur (by omega) (by omega) (by omega)).mono ?_
          rintro e w5 ⟨k5, q5, rfl, hk50, hk51, hc5, hq5, g5⟩
          obtain ⟨k5, rfl⟩ := Int.eq_ofNat_of_zero_le hk50
          have HD5 := hide ((unhide HD4).pick (unhide HSX) hc5 g5)
          clear hc5 g5 HD4 c4 cpl
          go_wp2_with fail
          refine (pick_of tb ao n cap q5 4 zs w5 (unhide HD5).cur (by omega) (by omega) (by omega)).mono ?_
          rintro e w6 ⟨x6, q6, rfl, hx60, hx61, hc6, hq6, g6⟩
          have HD6 := hide ((unhide HD5).pick (unhide HSX) hc6 g6)
          have hk5X : k5 < X[ii].length := by rw [unhide HLEN]; omega
          have hB64 : X[ii][k5].length = 64 := ((unhide hSH).2 ii hXi).2 _ (List.getElem_mem hk5X)
          have c6 : w6.cell? ⟨xb, 0, none⟩ = some (.slice (some ⟨g1, 0, none⟩) N pc) := by rw [cell_of_row _ xb 0 _ _ (0, 0) (unhide HD6).bx]; rfl
          have HPX : Hid (∀ B ∈ X[ii], B.length ≤ 64) := fun B hB => by rw [((unhide hSH).2 ii hXi).2 B hB]; exact Nat.le_refl _
          have HB64 := hide hB64
          clear hc6 g6 HD5 hB64
          by_cases h60 : x6 = 0
          · subst h60
            have HDD := hide ((unhide HD6).new (unhide HSX) (grown_drew (World.grownBy.refl w6 none)))
            obtain ⟨g1', c1', g2, c2, g3, c3, zv, e1, s1, s2, -, -, m1, m2, m3, -, -, -, -⟩ := (unhide HDD).num (unhide HSX) ii k5 0 hXi hk5X (by rw [unhide HB64]; omega)
            obtain ⟨e2, -, -⟩ := Value.slice.inj e1
            obtain rfl : g1 = g1' := by simpa using e2
            rw [unhide HLEN] at s1
            rw [unhide HB64] at s2
            have HN13 : g1 ≠ g3 := (unhide HDD).apart1 hXi hk5X s1 s2
            have HN23 : g2 ≠ g3 := (unhide HDD).apart2 hXi hk5X s1 s2
            have cD : w6.drew.cell? ⟨xb, 0, none⟩ = some (.slice (some ⟨g1, 0, none⟩) N pc) := by rw [cell_of_row _ xb 0 _ _ (0, 0) (unhide HDD).bx]; rfl
            have hl3 := (unhide HSX).l3
            have KEEP : Hid (∀ W, w6.drew.grownBy W (some tb) → W.cell? ⟨xb, 0, none⟩ = some (.slice (some ⟨g1, 0, none⟩) N pc) ∧ W.cell? ⟨g1, ii, none⟩ = some (.slice (some ⟨g2, 0, none⟩) Mi c2) ∧ W.cell? ⟨g2, k5, none⟩ = some (.slice (some ⟨g3, 0, none⟩) 64 c3)) := fun W g => ⟨g.cell cD (by simp; omega), g.cell s1 (by simp; omega), g.cell s2 (by simp; omega)⟩
            clear e1 e2 HD6
            go_wp2
            refine wp_region_noPanic ?_
            refine wp_region_raw (fun w' => w'.cell? ⟨xb, 0, none⟩ = some (.slice (some ⟨g1, 0, none⟩) N pc) ∧ w'.cell? ⟨g1, ii, none⟩ = some (.slice (some ⟨g2, 0, none⟩) Mi c2) ∧ w'.cell? ⟨g2, k5, none⟩ = some (.slice (some ⟨g3, 0, none⟩) 64 c3)) [true, true, true, true, true, true, true, true, true, false, true, false, false, true, false, false, false, false, false] (by kernel_rfl) (fun _ _ _ _ _ h => h) rfl (by kernel_rfl) ⟨cD, s1, s2⟩ ?_
            iterate 9
              refine heldF_take (v := ?_) (Or.inl ⟨by rfl, ?_⟩) ?_
              rotate_left 1
              · intro w' hSw
                try dsimp only at hSw
                obtain ⟨z0, z1, z2⟩ := hSw
                go_simp
                try with_reducible rfl
              simp only [Act.put, List.setIfInBounds_toArray, List.set_cons_zero, List.set_cons_succ]
            refine heldF_skip ?_
            refine heldF_take (v := ?_) (Or.inl ⟨by rfl, ?_⟩) ?_
            rotate_left 1
            · intro w' hSw
              try dsimp only at hSw
              obtain ⟨z0, z1, z2⟩ := hSw
              go_simp
              try with_reducible rfl
            simp only [Act.put, List.setIfInBounds_toArray, List.set_cons_zero, List.set_cons_succ]
            refine heldF_skip (heldF_skip ?_)
            refine heldF_take (v := ?_) (Or.inl ⟨by rfl, ?_⟩) ?_
            rotate_left 1
            · intro w' hSw
              try dsimp only at hSw
              obtain ⟨z0, z1, z2⟩ := hSw
              go_simp
              try with_reducible rfl
            simp only [Act.put, List.setIfInBounds_toArray, List.set_cons_zero, List.set_cons_succ]
            refine heldF_skip (heldF_skip (heldF_skip (heldF_skip (heldF_skip (heldF_nil ?_)))))
            refine anyH_step1 (i := 9) rfl (by kernel_rfl) (fun K hK => ?_)
            go_simp
            refine (pick_of tb ao n cap q6 64 zs w6.drew (unhide HDD).cur (by omega) (by omega) (by omega)).mono ?_
            rintro e w7 ⟨y, q7, rfl, hy0, hy1, hc7, hq7, g7⟩
            obtain ⟨y, rfl⟩ := Int.eq_ofNat_of_zero_le hy0
            have HD7 := hide ((unhide HDD).pick (unhide HSX) hc7 g7)
            have HG7 := hide g7
            have S7 := hide (unhide KEEP _ g7)
            clear hc7 g7 HDD
            go_simp
            refine hK.out _ _ (unhide S7) ?_
            clear hK K
            try simp only [Act.put, List.setIfInBounds_toArray, List.set_cons_zero, List.set_cons_succ]
            refine anyH_step1 (i := 11) rfl (by kernel_rfl) (fun K hK => ?_)
            go_simp
            refine (odd_of tb ao n cap q7 zs w7 (unhide HD7).cur (by omega)).mono ?_
            rintro e w8 ⟨o8, q8, rfl, hc8, hq8, g8⟩
            have HD8 := hide ((unhide HD7).pick (unhide HSX) hc8 g8)
            have HG8 := hide (grown_trans (unhide HG7) g8)
            have S8 := hide (unhide KEEP _ (unhide HG8))
            have hw8 : tb < w8.heap.size := hc8.lt
            clear hc8 g8 HD7 HG7 S7
            go_simp
            refine hK.out _ _ (unhide S8) ?_
            clear hK K
            try simp only [Act.put, List.setIfInBounds_toArray, List.set_cons_zero, List.set_cons_succ]
            refine anyH_step2 (i := 12) (j := 14) rfl rfl (by kernel_rfl) (fun K hK => ?_) (fun K hK => ?_)
            · go_simp
              have HG9 := hide (grown_trans (unhide HG8) (World.grownBy_alloc w8 (.cells #[.int .i64 16384, .int .i64 (-16384), .int .i64 o8] 3) (some tb)))
              have S9 := hide (unhide KEEP _ (unhide HG9))
              have HD9 := hide ((unhide HD8).new (unhide HSX) (World.grownBy_alloc w8 (.cells #[.int .i64 16384, .int .i64 (-16384), .int .i64 o8] 3) none))
              refine hK.out _ _ (unhide S9) ?_
              clear hK K HD8 S8
              try simp only [Act.put, List.setIfInBounds_toArray, List.set_cons_zero, List.set_cons_succ]
              refine anyH_step1 (i := 14) rfl (by kernel_rfl) (fun K hK => ?_)
              go_simp
              refine (pick_of tb ao n cap q8 3 zs _ (unhide HD9).cur (by omega) (by omega) (by omega)).mono ?_
              rintro e w10 ⟨z, q10, rfl, hzz0, hzz1, hc10, hq10, g10⟩
              obtain ⟨z, rfl⟩ := Int.eq_ofNat_of_zero_le hzz0
              obtain ⟨u, hu⟩ := lit_at g10 (by simp; omega) z (by simp; omega) (by intro v hv; simp at hv; rcases hv with rfl | rfl | rfl <;> exact ⟨_, rfl⟩)
              have HD10 := hide ((unhide HD9).pick (unhide HSX) hc10 g10)
              have S10 := hide (unhide KEEP _ (grown_trans (unhide HG9) g10))
              clear hc10 g10 HD9 S9 HG8 HG9 KEEP
              go_simp
              refine hK.out _ _ (unhide S10) ?_
              clear hK K
              try simp only [Act.put, List.setIfInBounds_toArray, List.set_cons_zero, List.set_cons_succ]
              obtain ⟨g1', c1', g2', c2', g3', c3', zv, e1, t1, t2, t3, t4, -, -, -, -, -, -, hset⟩ := (unhide HD10).num (unhide HSX) ii k5 y hXi hk5X (by rw [unhide HB64]; omega)
              obtain ⟨e2, -, -⟩ := Value.slice.inj e1
              obtain rfl : g1 = g1' := by simpa using e2
              rw [(unhide S10).2.1] at t1
              obtain ⟨e3, -, -⟩ := Value.slice.inj (Option.some.inj t1)
              obtain rfl : g2 = g2' := by simpa using e3
              rw [(unhide S10).2.2] at t2
              obtain ⟨e4, -, -⟩ := Value.slice.inj (Option.some.inj t2)
              obtain rfl : g3 = g3' := by simpa using e4
              obtain ⟨F', hDz⟩ := hset u
              have HDz := hide hDz
              have SZ : Hid ((w10.setCell ⟨g3, y, none⟩ (.int .i64 u)).cell? ⟨xb, 0, none⟩ = some (.slice (some ⟨g1, 0, none⟩) N pc) ∧ (w10.setCell ⟨g3, y, none⟩ (.int .i64 u)).cell? ⟨g1, ii, none⟩ = some (.slice (some ⟨g2, 0, none⟩) Mi c2) ∧ (w10.setCell ⟨g3, y, none⟩ (.int .i64 u)).cell? ⟨g2, k5, none⟩ = some (.slice (some ⟨g3, 0, none⟩) 64 c3)) := by
                have gs := grown_set w10 g3 y (.int .i64 u)
                exact ⟨by rw [cell_of_row _ xb 0 _ _ (0, 0) hDz.bx]; rfl, gs.cell (unhide S10).2.1 (by simp; exact HN13), gs.cell (unhide S10).2.2 (by simp; exact HN23)⟩
              clear hDz hset e1 e2 e3 e4 t1 t2 HD10
              refine anyH_step1 (i := 15) rfl (by kernel_rfl) (fun K hK => ?_)
              go_simp
              refine hK.out _ _ (unhide S10) ?_
              clear hK K
              try simp only [Act.put, List.setIfInBounds_toArray, List.set_cons_zero, List.set_cons_succ]
              refine anyH_step1 (i := 16) rfl (by kernel_rfl) (fun K hK => ?_)
              go_simp
              refine hK.out _ _ (unhide S10) ?_
              clear hK K
              try simp only [Act.put, List.setIfInBounds_toArray, List.set_cons_zero, List.set_cons_succ]
              refine anyH_step1 (i := 17) rfl (by kernel_rfl) (fun K hK => ?_)
              go_simp
              refine hK.out _ _ (unhide S10) ?_
              clear hK K
              try simp only [Act.put, List.setIfInBounds_toArray, List.set_cons_zero, List.set_cons_succ]
              refine anyH_step1 (i := 18) rfl (by kernel_rfl) (fun K hK => ?_)
              go_simp
              refine hK.out _ _ (unhide SZ) ?_
              clear hK K t3 t4 SZ hu
              refine wpAnyH_done (by kernel_rfl) (NoPanic.normal ?_) _
              obtain ⟨wz, hwz⟩ : ∃ wz, w10.setCell ⟨g3, y, none⟩ (Value.int .i64 u) = wz := ⟨_, rfl⟩
              rw [hwz] at HDz ⊢
              clear hwz
              obtain ⟨k0, k1, k2, k3, kE⟩ := unhide HEND _ _ _ _ (unhide HDz) (shape4_set (unhide HS4) ii (X[ii].set k5 (X[ii][k5].set y u)) ⟨by rw [List.length_set, unhide HLEN]; omega, fun B hB => (List.mem_or_eq_of_mem_set hB).elim (unhide HPX B) (fun e => by rw [e, List.length_set, unhide HB64]; exact Nat.le_refl _)⟩) (by omega)
              have HKE := hide kE
              have K3 := hide k3
              clear kE k3 HDz
              go_wp2
              refine bodyPost_ret (v := .agg #[.slice (some ⟨g1, 0, none⟩) N pc]) (by have hcc := unhide K3; simp [results, Try.results37, go_sem, hcc]) rfl ?_
              obtain ⟨X9, F9, q9, h9⟩ := unhide HKE
              exact ⟨_, X9, F9, q9, rfl, h9⟩
            · go_simp
              refine (pick_of tb ao n cap q8 3 zs w8 (unhide HD8).cur (by omega) (by omega) (by omega)).mono ?_
              rintro e w9 ⟨z, q10, rfl, hzz0, hzz1, hc9, hq10, g9⟩
              obtain ⟨z, rfl⟩ := Int.eq_ofNat_of_zero_le hzz0
              have HG9 := hide (grown_trans (unhide HG8) g9)
              have S9 := hide (unhide KEEP _ (unhide HG9))
              have HD9 := hide ((unhide HD8).pick (unhide HSX) hc9 g9)
              go_simp
              refine hK.out _ _ (unhide S9) ?_
              clear hK K HD8 S8 hc9 g9
              try simp only [Act.put, List.setIfInBounds_toArray, List.set_cons_zero, List.set_cons_succ]
              refine anyH_step1 (i := 12) rfl (by kernel_rfl) (fun K hK => ?_)
              go_simp
              obtain ⟨u, hu⟩ := lit_at (World.grownBy.refl (w9.alloc (.cells #[.int .i64 16384, .int .i64 (-16384), .int .i64 o8] 3)) none) (by simp) z (by simp; omega) (by intro v hv; simp at hv; rcases hv with rfl | rfl | rfl <;> exact ⟨_, rfl⟩)
              have HD10 := hide ((unhide HD9).new (unhide HSX) (World.grownBy_alloc w9 (.cells #[.int .i64 16384, .int .i64 (-16384), .int .i64 o8] 3) none))
              have S10 := hide (unhide KEEP _ (grown_trans (unhide HG9) (World.grownBy_alloc w9 (.cells #[.int .i64 16384, .int .i64 (-16384), .int .i64 o8] 3) (some tb))))
              refine hK.out _ _ (unhide S10) ?_
              clear hK K HD9 S9 HG8 HG9 KEEP
              try simp only [Act.put, List.setIfInBounds_toArray, List.set_cons_zero, List.set_cons_succ]
              obtain ⟨g1', c1', g2', c2', g3', c3', zv, e1, t1, t2, t3, t4, -, -, -, -, -, -, hset⟩ := (unhide HD10).num (unhide HSX) ii k5 y hXi hk5X (by rw [unhide HB64]; omega)
              obtain ⟨e2, -, -⟩ := Value.slice.inj e1
              obtain rfl : g1 = g1' := by simpa using e2
              rw [(unhide S10).2.1] at t1
              obtain ⟨e3, -, -⟩ := Value.slice.inj (Option.some.inj t1)
              obtain rfl : g2 = g2' := by simpa using e3
              rw [(unhide S10).2.2] at t2
              obtain ⟨e4, -, -⟩ := Value.slice.inj (Option.some.inj t2)
              obtain rfl : g3 = g3' := by simpa using e4
              obtain ⟨F', hDz⟩ := hset u
              have HDz := hide hDz
              have SZ : Hid (((w9.alloc (.cells #[.int .i64 16384, .int .i64 (-16384), .int .i64 o8] 3)).setCell ⟨g3, y, none⟩ (.int .i64 u)).cell? ⟨xb, 0, none⟩ = some (.slice (some ⟨g1, 0, none⟩) N pc) ∧ ((w9.alloc (.cells #[.int .i64 16384, .int .i64 (-16384), .int .i64 o8] 3)).setCell ⟨g3, y, none⟩ (.int .i64 u)).cell? ⟨g1, ii, none⟩ = some (.slice (some ⟨g2, 0, none⟩) Mi c2) ∧ ((w9.alloc (.cells #[.int .i64 16384, .int .i64 (-16384), .int .i64 o8] 3)).setCell ⟨g3, y, none⟩ (.int .i64 u)).cell? ⟨g2, k5, none⟩ = some (.slice (some ⟨g3, 0, none⟩) 64 c3)) := by
                have gs := grown_set (w9.alloc (.cells #[.int .i64 16384, .int .i64 (-16384), .int .i64 o8] 3)) g3 y (.int .i64 u)
                exact ⟨by rw [cell_of_row _ xb 0 _ _ (0, 0) hDz.bx]; rfl, gs.cell (unhide S10).2.1 (by simp; exact HN13), gs.cell (unhide S10).2.2 (by simp; exact HN23)⟩
              clear hDz hset e1 e2 e3 e4 t1 t2 HD10
              refine anyH_step1 (i := 15) rfl (by kernel_rfl) (fun K hK => ?_)
              go_simp
              refine hK.out _ _ (unhide S10) ?_
              clear hK K
              try simp only [Act.put, List.setIfInBounds_toArray, List.set_cons_zero, List.set_cons_succ]
              refine anyH_step1 (i := 16) rfl (by kernel_rfl) (fun K hK => ?_)
              go_simp
              refine hK.out _ _ (unhide S10) ?_
              clear hK K
              try simp only [Act.put, List.setIfInBounds_toArray, List.set_cons_zero, List.set_cons_succ]
              refine anyH_step1 (i := 17) rfl (by kernel_rfl) (fun K hK => ?_)
              go_simp
              refine hK.out _ _ (unhide S10) ?_
              clear hK K
              try simp only [Act.put, List.setIfInBounds_toArray, List.set_cons_zero, List.set_cons_succ]
              refine anyH_step1 (i := 18) rfl (by kernel_rfl) (fun K hK => ?_)
              go_simp
              refine hK.out _ _ (unhide SZ) ?_
              clear hK K t3 t4 SZ hu
              refine wpAnyH_done (by kernel_rfl) (NoPanic.normal ?_) _
              obtain ⟨wz, hwz⟩ : ∃ wz, (w9.alloc (.cells #[.int .i64 16384, .int .i64 (-16384), .int .i64 o8] 3)).setCell ⟨g3, y, none⟩ (Value.int .i64 u) = wz := ⟨_, rfl⟩
              rw [hwz] at HDz ⊢
              clear hwz
              obtain ⟨k0, k1, k2, k3, kE⟩ := unhide HEND _ _ _ _ (unhide HDz) (shape4_set (unhide HS4) ii (X[ii].set k5 (X[ii][k5].set y u)) ⟨by rw [List.length_set, unhide HLEN]; omega, fun B hB => (List.mem_or_eq_of_mem_set hB).elim (unhide HPX B) (fun e => by rw [e, List.length_set, unhide HB64]; exact Nat.le_refl _)⟩) (by omega)
              have HKE := hide kE
              have K3 := hide k3
              clear kE k3 HDz
              go_wp2
              refine bodyPost_ret (v := .agg #[.slice (some ⟨g1, 0, none⟩) N pc]) (by have hcc := unhide K3; simp [results, Try.results37, go_sem, hcc]) rfl ?_
              obtain ⟨X9, F9, q9, h9⟩ := unhide HKE
              exact ⟨_, X9, F9, q9, rfl, h9⟩
          · by_cases h61 : x6 = 1
            · subst h61
              have HDD := hide ((unhide HD6).new (unhide HSX) (grown_drew (World.grownBy.refl w6 none)))
              have cD : w6.drew.cell? ⟨xb, 0, none⟩ = some (.slice (some ⟨g1, 0, none⟩) N pc) := by rw [cell_of_row _ xb 0 _ _ (0, 0) (unhide HDD).bx]; rfl
              obtain ⟨g1', c1', u, Fi, e1, hg1F, hg1n, s1, hfz, hu, hnI, hsub, hback⟩ := OwR.swap ok2 (unhide HDD).own (unhide HDD).nd ii hXi
              obtain ⟨e2, -, -⟩ := Value.slice.inj e1
              obtain rfl : g1 = g1' := by simpa using e2
              obtain ⟨uo, uc, rfl⟩ := OwR.form hu
              rw [unhide HLEN] at s1 hfz hu
              have HU := hide hu
              have HFZ := hide hfz
              have HBK := hide hback
              have HNI := hide hnI
              have HSU := hide hsub
              clear e1 e2 HD6 hu hfz hback hnI hsub
              go_wp2
              refine wp_region_noPanic ?_
              refine wp_region_tailL 20 (fun w' => w'.cell? ⟨xb, 0, none⟩ = some (.slice (some ⟨g1, 0, none⟩) N pc) ∧ w'.cell? ⟨g1, ii, none⟩ = some (.slice uo Mi uc)) [true, true, true, true, true, true, true, true, false, false, false, false, false] (by kernel_rfl) (fun _ _ _ _ _ h => h) rfl (by decide) (by kernel_rfl) ⟨cD, s1⟩ ?_
              iterate 8
                refine heldF_take (v := ?_) (Or.inl ⟨by rfl, ?_⟩) ?_
                rotate_left 1
                · intro w' hSw
                  try dsimp only at hSw
                  obtain ⟨z0, z1⟩ := hSw
                  go_simp
                  try with_reducible rfl
                simp only [Act.put, List.setIfInBounds_toArray, List.set_cons_zero, List.set_cons_succ]
              refine heldF_skip (heldF_skip (heldF_skip (heldF_skip (heldF_skip (heldF_nil ?_)))))
              iterate 8 refine tailL_skip ?_
              refine tailL_step (fun K hK => ?_)
              refine step_make_ints (by rfl) _ _ (by rfl) 64 (by rfl) (by rfl) (by omega) ?_
              intro w7 ho7 g7
              have hs7 := (unhide HDD).size
              have hz7 := (ho7.lt _ rfl).2
              obtain ⟨gb, hgb⟩ : ∃ gb, w6.drew.heap.size = gb := ⟨_, rfl⟩
              rw [hgb] at ho7 hs7 hz7 ⊢
              have c7 := g7.cell cD (by simp)
              have s7 := g7.cell s1 (by simp)
              refine hK.out _ _ (.inr ⟨c7, s7⟩) ?_
              clear hK K
              simp only [Act.put, List.setIfInBounds_toArray, List.set_cons_zero, List.set_cons_succ]
              refine tailL_step (fun K hK => ?_)
              go_simp
              refine hK.out _ _ (.inr ⟨(World.grownBy_alloc w7 _ none).cell c7 (by simp), (World.grownBy_alloc w7 _ none).cell s7 (by simp)⟩) ?_
              clear hK K
              try simp only [Act.put, List.setIfInBounds_toArray, List.set_cons_zero, List.set_cons_succ]
              refine tailL_step (fun K hK => ?_)
              have HGF : Hid (gb ∉ F) := fun e => by have := hs7.2 _ e; omega
              have hl3 := (unhide HSX).l3
              refine step_append_rowR ok1 Try.underlying42 infoIntSS rfl _ _ rfl (.slice uo Mi uc) X[ii] Fi rfl (ok2.keep (unhide HU) g7) (unhide HNI) (.slice (some ⟨gb, 0, none⟩) 64 64) (List.replicate 64 0) [gb] ⟨own_base ho7 (Nat.zero_le _), rfl⟩ (by simp) (fun x hx e => by simp at hx; subst hx; exact unhide HGF (unhide HSU _ e)) rfl (by rw [unhide HLEN]; omega) _ rfl ?_
              intro v8 w8 F8 o8 n8 m8 wr8
              obtain ⟨vo, vc, rfl⟩ := OwR.form o8
              have hbF : ∀ x ∈ blk (Value.slice uo Mi uc), x ∈ Fi := by
                obtain ⟨us, Fs, _, _, _, _, e9⟩ := unhide HU
                intro x hx
                rw [e9]; simp [hx]
              have hw8 : Wr Fi w6.drew w8 := (Wr.ofNone g7).trans (wr8.mono hbF)
              have s8 := unhide HFZ w8 hw8
              have c8 : w8.cell? ⟨xb, 0, none⟩ = some (.slice (some ⟨g1, 0, none⟩) N pc) := by
                have := hw8.block xb (unhide HDD).size.1 (fun e => ((unhide HDD).lo _ (unhide HSU _ e)).2 rfl)
                rw [cell_of_row _ xb 0 _ _ (0, 0) (this.trans (unhide HDD).bx)]; rfl
              have hsz7 := g7.size
              have hmF : ∀ x ∈ F8, x ∈ Fi ∨ x ∉ F := fun x hx => by
                rcases m8 x hx with h | h | h
                · exact .inl h
                · simp at h; subst h; exact .inr (unhide HGF)
                · exact .inr (fun e => by have := hs7.2 _ e; omega)
              obtain ⟨F9, o9, n9, m9⟩ := unhide HBK w8 _ (X[ii] ++ [List.replicate 64 0]) F8 hw8 o8 n8 hmF
              have hlo : ∀ x ∈ F8, w.heap.size + 2 ≤ x ∧ x ≠ xb := fun x hx => by
                rcases m8 x hx with h | h | h
                · exact (unhide HDD).lo x (unhide HSU x h)
                · simp at h; subst h; exact ⟨by omega, by omega⟩
                · exact ⟨by omega, by omega⟩
              have hDz := ((unhide HDD).new (unhide HSX) g7).two (unhide HSX) (Wr.toRow wr8) (grown_set w8 g1 ii (.slice vo (X[ii] ++ [List.replicate 64 0]).length vc)) (fun k e => (unhide HDD).lo k (unhide HSU k (hbF k (mem_blk.2 e)))) (fun k e => by simp at e; subst e; exact (unhide HDD).lo _ hg1F) o9 n9 (fun x hx => by
                rcases m9 x hx with h | h
                · exact (unhide HDD).lo x h
                · exact hlo x h)
              have hll : (X[ii] ++ [List.replicate 64 (0 : Int)]).length = Mi + 1 := by rw [List.length_append, unhide HLEN]; rfl
              rw [hll] at hDz ⊢
              have HDz := hide hDz
              have x8 := s8.1
              have y8 := s8.2
              clear hDz o8 n8 m8 wr8 hbF hw8 s8 hmF o9 n9 m9 hlo HBK HFZ HU HDD ho7 g7 hs7 hz7 hll
              refine hK.out _ _ (.inr ⟨c8, y8⟩) ?_
              clear hK K
              simp only [Act.put, List.setIfInBounds_toArray, List.set_cons_zero, List.set_cons_succ]
              refine tailL_step (fun K hK => ?_)
              go_simp
              refine hK.out _ _ (.inr ⟨c8, y8⟩) ?_
              clear hK K
              try simp only [Act.put, List.setIfInBounds_toArray, List.set_cons_zero, List.set_cons_succ]
              refine tailL_step (fun K hK => ?_)
              go_simp
              refine hK.out _ _ (.inl rfl) ?_
              clear hK K x8 y8
              refine tailL_nil (NoPanic.normal ?_)
              obtain ⟨k0, k1, k2, k3, kE⟩ := unhide HEND _ _ _ _ (unhide HDz) (shape4_set (unhide HS4) ii (X[ii] ++ [List.replicate 64 0]) ⟨by rw [List.length_append, unhide HLEN, List.length_singleton]; omega, fun B hB => (List.mem_append.1 hB).elim (unhide HPX B) (fun e => by rw [List.mem_singleton.1 e]; simp)⟩) (by omega)
              have HKE := hide kE
              have K3 := hide k3
              clear kE k3 HDz
              go_wp2
              refine bodyPost_ret (v := .agg #[.slice (some ⟨g1, 0, none⟩) N pc]) (by have hcc := unhide K3; simp [results, Try.results37, go_sem, hcc]) rfl ?_
              obtain ⟨X9, F9, q9, h9⟩ := unhide HKE
              exact ⟨_, X9, F9, q9, rfl, h9⟩
            · by_cases h62 : x6 = 2
              · subst h62
                have HDD := hide ((unhide HD6).new (unhide HSX) (grown_drew (World.grownBy.refl w6 none)))
                have cD : w6.drew.cell? ⟨xb, 0, none⟩ = some (.slice (some ⟨g1, 0, none⟩) N pc) := by rw [cell_of_row _ xb 0 _ _ (0, 0) (unhide HDD).bx]; rfl
                obtain ⟨g1', c1', g2, c2, g3, c3, zv, e1, s1, s2, s3, s4, -, -, -, -, -, -, hset⟩ := (unhide HDD).num (unhide HSX) ii k5 0 hXi hk5X (by rw [unhide HB64]; omega)
                obtain ⟨e2, -, -⟩ := Value.slice.inj e1
                obtain rfl : g1 = g1' := by simpa using e2
                rw [unhide HLEN] at s1
                clear hset e1 e2 s2 s3 s4 HD6
                go_wp2
                refine wp_region_noPanic ?_
                refine wp_region_tailL 20 (fun w' => w'.cell? ⟨xb, 0, none⟩ = some (.slice (some ⟨g1, 0, none⟩) N pc) ∧ w'.cell? ⟨g1, ii, none⟩ = some (.slice (some ⟨g2, 0, none⟩) Mi c2)) [true, true, true, true, true, true, false, false, false] (by kernel_rfl) (fun _ _ _ _ _ h => h) rfl (by decide) (by kernel_rfl) ⟨cD, s1⟩ ?_
                iterate 6
                  refine heldF_take (v := ?_) (Or.inl ⟨by rfl, ?_⟩) ?_
                  rotate_left 1
                  · intro w' hSw
                    try dsimp only at hSw
                    obtain ⟨z0, z1⟩ := hSw
                    go_simp
                    try with_reducible rfl
                  simp only [Act.put, List.setIfInBounds_toArray, List.set_cons_zero, List.set_cons_succ]
                refine heldF_skip (heldF_skip (heldF_skip (heldF_nil ?_)))
                iterate 6 refine tailL_skip ?_
                refine tailL_step (fun K hK => ?_)
                refine step_make_ints (by rfl) _ _ (by rfl) 63 (by rfl) (by rfl) (by omega) ?_
                intro w7 ho7 g7
                have HD7 := hide ((unhide HDD).new (unhide HSX) g7)
                have hs7 := (unhide HDD).size
                obtain ⟨gb, hgb⟩ : ∃ gb, w6.drew.heap.size = gb := ⟨_, rfl⟩
                rw [hgb] at ho7 hs7 ⊢
                obtain ⟨g1', c1', g2', c2', zv, e1, t1, t2, t3, F', hDz⟩ := (unhide HD7).store (unhide HSX) ii k5 hXi hk5X (bs := List.replicate 63 0) (by rw [List.length_replicate]; exact ho7) (by have := (unhide HSX).l3; omega) (by omega) (fun e => by have := hs7.2 _ e; omega)
                obtain ⟨e2, -, -⟩ := Value.slice.inj e1
                obtain rfl : g1 = g1' := by simpa using e2
                have c7 : w7.cell? ⟨xb, 0, none⟩ = some (.slice (some ⟨g1, 0, none⟩) N pc) := by rw [cell_of_row _ xb 0 _ _ (0, 0) (unhide HD7).bx]; rfl
                have s7 : w7.cell? ⟨g1, ii, none⟩ = some (.slice (some ⟨g2, 0, none⟩) Mi c2) := g7.cell s1 (by simp)
                rw [s7] at t1
                obtain ⟨e3, -, -⟩ := Value.slice.inj (Option.some.inj t1)
                obtain rfl : g2 = g2' := by simpa using e3
                rw [List.length_replicate] at hDz
                have HDz := hide hDz
                clear hDz e1 e2 e3 t1 ho7 g7 HDD hs7 hgb
                refine hK.out _ _ (.inr ⟨c7, s7⟩) ?_
                clear hK K
                simp only [Act.put, List.setIfInBounds_toArray, List.set_cons_zero, List.set_cons_succ]
                refine tailL_step (fun K hK => ?_)
                go_simp
                refine hK.out _ _ (.inr ⟨c7, s7⟩) ?_
                clear hK K
                try simp only [Act.put, List.setIfInBounds_toArray, List.set_cons_zero, List.set_cons_succ]
                refine tailL_step (fun K hK => ?_)
                go_simp
                refine hK.out _ _ (.inl rfl) ?_
                clear hK K t2 t3
                refine tailL_nil (NoPanic.normal ?_)
                obtain ⟨k0, k1, k2, k3, kE⟩ := unhide HEND _ _ _ _ (unhide HDz) (shape4_set (unhide HS4) ii (X[ii].set k5 (List.replicate 63 0)) ⟨by rw [List.length_set, unhide HLEN]; omega, fun B hB => (List.mem_or_eq_of_mem_set hB).elim (unhide HPX B) (fun e => by rw [e]; simp)⟩) (by omega)
                have HKE := hide kE
                have K3 := hide k3
                clear kE k3 HDz
                go_wp2
                refine bodyPost_ret (v := .agg #[.slice (some ⟨g1, 0, none⟩) N pc]) (by have hcc := unhide K3; simp [results, Try.results37, go_sem, hcc]) rfl ?_
                obtain ⟨X9, F9, q9, h9⟩ := unhide HKE
                exact ⟨_, X9, F9, q9, rfl, h9⟩
              · have cD := c6
                obtain ⟨m1, rfl⟩ : ∃ m1, Mi = m1 + 1 := ⟨Mi - 1, by omega⟩
                have em1 := i64_in (m1 : Int) (by omega)
                have hm1I : (m1 : Int) < (m1 : Int) + 1 := by omega
                have hm1X : m1 < X[ii].length := by rw [unhide HLEN]; omega
                have hm64 : X[ii][m1].length = 64 := ((unhide hSH).2 ii hXi).2 _ (List.getElem_mem hm1X)
                obtain ⟨g1', c1', g2, c2, g3, c3, zv, e1, s1, s2, s3, s4, -, -, -, -, -, -, hset⟩ := (unhide HD6).num (unhide HSX) ii m1 5 hXi hm1X (by omega)
                obtain ⟨e2, -, -⟩ := Value.slice.inj e1
                obtain rfl : g1 = g1' := by simpa using e2
                rw [unhide HLEN] at s1
                rw [hm64] at s2
                obtain ⟨F', hDz⟩ := hset 3
                have HDz := hide (hDz.new (unhide HSX) (grown_drew (World.grownBy.refl _ none)))
                have HM64 := hide hm64
                clear hset hDz e1 e2 HD6 hm64
                go_wp2
                refine wp_region_noPanic ?_
                refine wp_region_tailL 20 (fun w' => w'.cell? ⟨xb, 0, none⟩ = some (.slice (some ⟨g1, 0, none⟩) N pc) ∧ w'.cell? ⟨g1, ii, none⟩ = some (.slice (some ⟨g2, 0, none⟩) (m1 + 1) c2) ∧ w'.cell? ⟨g2, m1, none⟩ = some (.slice (some ⟨g3, 0, none⟩) 64 c3)) [true, true, true, true, true, true, true, true, true, true, true, true, true, true, true, false] (by kernel_rfl) (fun _ _ _ _ _ h => h) rfl (by decide) (by kernel_rfl) ⟨cD, s1, s2⟩ ?_
                iterate 15
                  refine heldF_take (v := ?_) (Or.inl ⟨by rfl, ?_⟩) ?_
                  rotate_left 1
                  · intro w' hSw
                    try dsimp only at hSw
                    obtain ⟨z0, z1, z2⟩ := hSw
                    go_simp
                    try with_reducible rfl
                  simp only [Act.put, List.setIfInBounds_toArray, List.set_cons_zero, List.set_cons_succ]
                refine heldF_skip (heldF_nil ?_)
                iterate 15 refine tailL_skip ?_
                refine tailL_step (fun K hK => ?_)
                go_simp
                refine hK.out _ _ (.inl rfl) ?_
                clear hK K s3 s4
                refine tailL_nil (NoPanic.normal ?_)
                obtain ⟨wz, hwz⟩ : ∃ wz, (w6.setCell ⟨g3, 5, none⟩ (Value.int .i64 3)).drew = wz := ⟨_, rfl⟩
                rw [hwz] at HDz ⊢
                clear hwz
                obtain ⟨k0, k1, k2, k3, kE⟩ := unhide HEND _ _ _ _ (unhide HDz) (shape4_set (unhide HS4) ii (X[ii].set m1 (X[ii][m1].set 5 3)) ⟨by rw [List.length_set, unhide HLEN]; omega, fun B hB => (List.mem_or_eq_of_mem_set hB).elim (unhide HPX B) (fun e => by rw [e]; rw [List.length_set, unhide HM64]; exact Nat.le_refl _)⟩) (by omega)
                have HKE := hide kE
                have K3 := hide k3
                clear kE k3 HDz
                go_wp2
                refine bodyPost_ret (v := .agg #[.slice (some ⟨g1, 0, none⟩) N pc]) (by have hcc := unhide K3; simp [results, Try.results37, go_sem, hcc]) rfl ?_
                obtain ⟨X9, F9, q9, h9⟩ := unhide HKE
                exact ⟨_, X9, F9, q9, rfl, h9⟩

end Go.Proofs.Ytibgldanmhckiaa

namespace Go.Proofs.Ytibgldanmhckiaa
end Go.Proofs.Ytibgldanmhckiaa

namespace Go.Proofs.Ytibgldanmhckiaa
theorem Try.info5 : (Try.prog.info? 5).map (fun i => (i.zero, i.size, i.bytes)) = some (some (.int .u8 0), 1, 1) := by kernel_rfl
end Go.Proofs.Ytibgldanmhckiaa

namespace Go.Proofs.Ytibgldanmhckiaa
open Go.RowKit

theorem new_cells (w : World) (xs : Array Value) (t : TypeId) : ∀ j u, xs.toList[j]? = some u → (w.alloc (.cells xs t)).cell? ((⟨w.heap.size, 0, none⟩ : Addr).add j) = some u := by
  intro j u hj
  have h := heap_alloc_new w (.cells xs t)
  rw [Addr.add_lit, Nat.zero_add, cell_of_row _ _ j _ _ (0, 0) h]
  simpa using hj
theorem rd_news {w : World} {x : Addr} {m : Nat} {zs : List Int} (h : Rd .u8 w (some x) m zs) : ∀ j u, (zs.map (Value.int .u8))[j]? = some u → w.cell? (x.add j) = some u := by
  intro j u hj
  have hl := h.1
  have hjl : j < m := by
    have := (List.getElem?_eq_some_iff.1 hj).1
    simp at this; omega
  obtain ⟨b, off, e, hc⟩ := h.2 j hjl
  simp only [Option.some.injEq] at e
  subst e
  rw [Addr.add_lit, hc]
  rw [List.getElem?_map] at hj
  have hj2 : j < zs.length := by omega
  simp [hj2] at hj ⊢
  exact hj

theorem append_rd {w : World} {ops : Array Oper} {rest : List Oper} {o : Oper} {a : Act} {Q : Exit → Act → World → Prop} (hgd : o.guard = none) (s x : Operand)
    (ho : o.op = .call { callee := .builtin .append, args := #[s, x], argTypes := #[22, 22] })
    (base : Nat) (v : Value) (n : Nat) (xs : List Value) (hs : a.eval s = v) (hown : w.ownsRow base 5 1 v n xs)
    (dd : Option Addr) (m c : Nat) (zs : List Int) (hx : a.eval x = .slice dd m c) (hr : Rd .u8 w dd m zs) (hnil : dd = none → c = 0)
    (hb : n + m ≤ 1000000) (hbase : base ≤ w.heap.size)
    (h : ∀ v' w', w'.ownsRow base 5 1 v' (n + m) (xs ++ zs.map (Value.int .u8)) → w.grownBy w' v.ownBlock → wpList Try.prog ops Q rest (a.put o.dst v') w') :
    wpList Try.prog ops Q (o :: rest) a w := by
  obtain ⟨i0, hi, hz0, hz1, hz2⟩ := info_parts Try.info5
  cases dd with
  | none =>
    have hm : m = 0 := by
      rcases Nat.eq_zero_or_pos m with e | e
      · exact e
      · obtain ⟨b, off, e, _⟩ := hr.2 0 e
        cases e
    subst hm
    have hz : zs = [] := List.length_eq_zero_iff.1 hr.1
    subst hz
    rw [hnil rfl] at hx
    refine wpList_append_own_none hgd s x 22 ho base 5 i0 1 Try.underlying22 hi v n xs hs hown hx (h v w ?_ (World.grownBy.refl _ _))
    simpa using hown
  | some ad =>
    refine wpList_append_own _ hgd s x 22 ho base 5 i0 (.int .u8 0) 1 1 Try.underlying22 hi hz0 hz1 hz2 rfl (by decide) v n xs hs hown ad m c (zs.map (Value.int .u8)) hx (by simp [hr.1]) (rd_news hr) ?_ (by unfold maxLen; omega) (by omega) hbase (fun v' w' h1 h2 _ => h v' w' h1 h2)
    intro u hu
    obtain ⟨y, _, rfl⟩ := List.mem_map.1 hu
    rfl

theorem own_nil {w : World} {base : Nat} {e : TypeId} {bo : Option Addr} {n c : Nat} {xs : List Value} (h : w.ownsRow base e 1 (.slice bo n c) n xs) : bo = none → c = 0 := by
  intro hn
  rcases h.2 with ⟨hv, _⟩ | ⟨q, _, _, hv, _⟩
  · simp at hv; exact hv.2.2
  · rw [hn] at hv; simp at hv
theorem own_as {w : World} {base : Nat} {e : TypeId} {v : Value} {n n' : Nat} {xs xs' : List Value} (h : w.ownsRow base e 1 v n xs) (hn : n = n') (hx : xs = xs') : w.ownsRow base e 1 v n' xs' := by subst hn; subst hx; exact h
/-- A new struct of two cells, seen behind what else grew. -/
theorem two_cells {w w' : World} {a b : Value} {t : TypeId} {o : Obj} {row : Option Nat} (hg : ((w.alloc (.cells #[a, b] t)).alloc o).grownBy w' row) (hr : ∀ g, row = some g → g < w.heap.size) : w'.cell? ⟨w.heap.size, 0, none⟩ = some a ∧ w'.cell? ⟨w.heap.size, 1, none⟩ = some b := by
  have h := heap_alloc_new w (.cells #[a, b] t)
  have h2 : ((w.alloc (.cells #[a, b] t)).alloc o).heap[w.heap.size]? = some (.cells #[a, b] t) := by rw [Below.heap_alloc _ _ _ (by simp)]; exact h
  have h3 := (hg.block w.heap.size (by simp; omega) (fun e => by have := hr _ e.symm; omega)).trans h2
  exact ⟨by rw [cell_of_row w' _ 0 _ _ (0, 0) h3]; rfl, by rw [cell_of_row w' _ 1 _ _ (0, 0) h3]; rfl⟩
end Go.Proofs.Ytibgldanmhckiaa

namespace Go.Proofs.Ytibgldanmhckiaa
open Go.RowKit

/-- What has grown by new rows and by the cursor's alone. -/
theorem grown_tb {a b c : World} {tb : Nat} {row : Option Nat} (h : a.grownBy b (some tb)) (hg : b.grownBy c row) (hge : ∀ g, row = some g → a.heap.size ≤ g) : a.grownBy c (some tb) :=
  ⟨hg.os.trans h.os, hg.tape.trans h.tape, hg.output.trans h.output, Nat.le_trans h.size hg.size, fun k hk hr => (hg.block k (Nat.lt_of_lt_of_le hk h.size) (fun e => by have := hge k e.symm; omega)).trans (h.block k hk hr)⟩
theorem bytes_push {bs : List Int} {y : Int} (h : ∀ x ∈ bs, 0 ≤ x ∧ x ≤ 255) (hy : 0 ≤ y ∧ y ≤ 255) : ∀ x ∈ bs ++ [y], 0 ≤ x ∧ x ≤ 255 := by
  intro x hx
  rcases List.mem_append.1 hx with h1 | h1
  · exact h x h1
  · simp at h1; subst h1; exact hy
theorem rd_sub {w : World} {ao : Option Addr} {n : Nat} {zs : List Int} (h : Rd .u8 w ao n zs) (k m : Nat) (hk : k + m ≤ n) (b off : Nat) (he : ao = some ⟨b, off, none⟩) : Rd .u8 w (some ⟨b, off + k, none⟩) m ((zs.drop k).take m) := by
  subst he
  refine ⟨by have := h.1; simp; omega, fun i hi => ?_⟩
  obtain ⟨b', off', e, hc⟩ := h.2 (k + i) (by omega)
  simp only [Option.some.injEq, Addr.mk.injEq] at e
  have ea := e.1
  have eb := e.2.1
  subst ea; subst eb
  refine ⟨b, off + k, rfl, ?_⟩
  rw [Nat.add_assoc, hc]
  have e1 : ((zs.drop k).take m).getD i 0 = zs.getD (k + i) 0 := by
    rw [List.getD_eq_getElem?_getD, List.getElem?_take, if_pos hi, List.getElem?_drop, ← List.getD_eq_getElem?_getD]
  rw [e1]
theorem rd_tail {w : World} {ao : Option Addr} {n : Nat} {zs : List Int} (h : Rd .u8 w ao n zs) (k : Nat) (hk : k ≤ n) (b off : Nat) (he : ao = some ⟨b, off, none⟩) : Rd .u8 w (some ⟨b, off + k, none⟩) (n - k) (zs.drop k) := by
  have h1 := rd_sub h k (n - k) (by omega) b off he
  rwa [List.take_of_length_le (by have := h.1; simp; omega)] at h1
theorem Rd.aside {k : IntKind} {w w' : World} {ao : Option Addr} {n : Nat} {zs : List Int} {row : Option Nat} (h : Rd k w ao n zs) (hg : w.grownBy w' row) (hne : 0 < n → ∀ b off, ao = some ⟨b, off, none⟩ → ∀ g, row = some g → b ≠ g) : Rd k w' ao n zs := by
  cases row with
  | none => exact h.grown hg
  | some g => exact h.beside hg (fun hn b off e => hne hn b off e g rfl)
theorem bytes_app {xs ys : List Int} (h : ∀ x ∈ xs, 0 ≤ x ∧ x ≤ 255) (h' : ∀ x ∈ ys, 0 ≤ x ∧ x ≤ 255) : ∀ x ∈ xs ++ ys, 0 ≤ x ∧ x ≤ 255 := by
  intro x hx
  rcases List.mem_append.1 hx with h1 | h1
  · exact h x h1
  · exact h' x h1
theorem rd_front {w : World} {ao : Option Addr} {n : Nat} {zs : List Int} (h : Rd .u8 w ao n zs) (k : Nat) (hk : k ≤ n) : Rd .u8 w ao k (zs.take k) := by
  refine ⟨by have := h.1; simp; omega, fun i hi => ?_⟩
  obtain ⟨b, off, e, hc⟩ := h.2 i (by omega)
  refine ⟨b, off, e, ?_⟩
  rw [hc]
  have e1 : (zs.take k).getD i 0 = zs.getD i 0 := by
    rw [List.getD_eq_getElem?_getD, List.getElem?_take, if_pos hi, ← List.getD_eq_getElem?_getD]
  rw [e1]

end Go.Proofs.Ytibgldanmhckiaa

namespace Go.Proofs.Ytibgldanmhckiaa
open Go.RowKit

theorem frameCells5 {w : World} {g : Nat} {a b c d v : Value} {t : TypeId} (hb : w.heap[g]? = some (.cells #[a, b, c, d, v] t (0, 0))) :
    w.cell? ⟨g, 0, none⟩ = some a ∧ w.cell? ⟨g, 1, none⟩ = some b ∧ w.cell? ⟨g, 2, none⟩ = some c ∧ w.cell? ⟨g, 3, none⟩ = some d ∧ w.cell? ⟨g, 4, none⟩ = some v :=
  ⟨by rw [cell_of_row w _ 0 _ _ (0, 0) hb]; rfl, by rw [cell_of_row w _ 1 _ _ (0, 0) hb]; rfl, by rw [cell_of_row w _ 2 _ _ (0, 0) hb]; rfl, by rw [cell_of_row w _ 3 _ _ (0, 0) hb]; rfl, by rw [cell_of_row w _ 4 _ _ (0, 0) hb]; rfl⟩

def compBs (C : Nat → Nat → Int) : Nat → List Int
  | 0 => []
  | k + 1 => compBs C k ++ [C k 0, 16 * C k 1 + C k 2, C k 3]
def frameBs (p wd ht rs : Int) (n : Nat) (C : Nat → Nat → Int) (k : Nat) : List Int := [p, wd - 1, ht - 1, rs, (n : Int)] ++ compBs C k
def writeF (p wd ht rs : Int) (n : Nat) (C : Nat → Nat → Int) : List Int := if frameB p wd ht rs n C = true then frameBs p wd ht rs n C n else []
theorem compBs_len (C : Nat → Nat → Int) : ∀ k, (compBs C k).length = 3 * k
  | 0 => rfl
  | k + 1 => by simp only [compBs, List.length_append, compBs_len C k, List.length_cons, List.length_nil]; omega
theorem frameBs_len (p wd ht rs : Int) (n : Nat) (C : Nat → Nat → Int) (k : Nat) : (frameBs p wd ht rs n C k).length = 5 + 3 * k := by
  simp only [frameBs, List.length_append, compBs_len, List.length_cons, List.length_nil]
theorem frameBs_succ (p wd ht rs : Int) (n : Nat) (C : Nat → Nat → Int) (k : Nat) : frameBs p wd ht rs n C (k + 1) = frameBs p wd ht rs n C k ++ [C k 0, 16 * C k 1 + C k 2, C k 3] := by
  simp only [frameBs, compBs, List.append_assoc]
theorem compBs_congr {C D : Nat → Nat → Int} : ∀ k, (∀ i, i < k → C i = D i) → compBs C k = compBs D k
  | 0, _ => rfl
  | k + 1, h => by simp only [compBs]; rw [compBs_congr k (fun i hi => h i (by omega)), h k (by omega)]
theorem frameBs_congr {C D : Nat → Nat → Int} {p wd ht rs : Int} {n : Nat} (h : ∀ i, i < n → C i = D i) : frameBs p wd ht rs n C n = frameBs p wd ht rs n D n := by
  simp only [frameBs]; rw [compBs_congr n h]
theorem frameB_facts {p wd ht rs : Int} {n : Nat} {C : Nat → Nat → Int} (h : frameB p wd ht rs n C = true) : ((p = 8 ∨ p = 12) ∧ (1 ≤ wd ∧ wd ≤ 256) ∧ (1 ≤ ht ∧ ht ≤ 256) ∧ wd * ht ≤ 16384 ∧ 0 ≤ rs ∧ rs ≤ 255) ∧ (1 ≤ n ∧ n ≤ 4) ∧ ∀ k, k < n → compB (C k) = true := by
  rw [frameB, Bool.and_eq_true, compsB, Bool.and_eq_true, Bool.and_eq_true] at h
  obtain ⟨h1, h2, h3, _⟩ := h
  have h2' := of_decide_eq_true h2
  refine ⟨headB_facts h1, by omega, fun k hk => ?_⟩
  have := okTo_true h3 (k + 1) hk
  rw [okTo, Bool.and_eq_true, Bool.and_eq_true] at this
  exact this.2.1

end Go.Proofs.Ytibgldanmhckiaa

namespace Go.Proofs.Ytibgldanmhckiaa
open Go.RowKit

/-- The first cells of a frame, where it lies. -/
theorem fx_heads {X : Array Value} {p wd ht rs n : Int} {C : Nat → Nat → Int} (hX : Fx X p wd ht rs n C) {w : World} {g : Nat} {t : TypeId} (hb : w.heap[g]? = some (.cells X t (0, 0))) :
    w.cell? ⟨g, 0, none⟩ = some (.int .i64 p) ∧ w.cell? ⟨g, 1, none⟩ = some (.int .i64 wd) ∧ w.cell? ⟨g, 2, none⟩ = some (.int .i64 ht) ∧ w.cell? ⟨g, 3, none⟩ = some (.int .i64 rs) ∧ w.cell? ⟨g, 4, none⟩ = some (.int .i64 n) :=
  ⟨by rw [cell_of_row w _ 0 _ _ (0, 0) hb]; exact hX.c0, by rw [cell_of_row w _ 1 _ _ (0, 0) hb]; exact hX.c1, by rw [cell_of_row w _ 2 _ _ (0, 0) hb]; exact hX.c2, by rw [cell_of_row w _ 3 _ _ (0, 0) hb]; exact hX.c3, by rw [cell_of_row w _ 4 _ _ (0, 0) hb]; exact hX.c4⟩

theorem fz_one : (#[.int .i64 0, .int .i64 0, .int .i64 0, .int .i64 0, .int .i64 0, .int .i64 0, .int .i64 0, .int .i64 0, .int .i64 0, .int .i64 0, .int .i64 0, .int .i64 0, .int .i64 0, .int .i64 0, .int .i64 0, .int .i64 0, .int .i64 0, .int .i64 0, .int .i64 0, .int .i64 0, .int .i64 0] : Array Value).all (·.oneCell') = true := by decide +kernel

end Go.Proofs.Ytibgldanmhckiaa
