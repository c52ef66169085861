/-
  Blocks that are drawn, where nothing else of tables is at hand.
-/
import Derived.Test.YtmomfopbdpgcgaaCurOnce
import Derived.Test.YtmomfopbdpgcgaaCurOdd
namespace Go.Proofs.Ytmomfopbdpgcgaa
open Go.RowKit

theorem info_bd : (Try.prog.info? 3).map (fun i => (i.zero, i.size, i.bytes)) = some (some (.int .i64 0), 1, 8) := by kernel_rfl

theorem specClip (n lo hi : Int) (h : lo ≤ hi) (w : World) :
    Calls Try.prog 53 #[.int .i64 n, .int .i64 lo, .int .i64 hi] w fun e w' => e = .returned (.int .i64 (min (max n lo) hi)) ∧ w = w' := by
  by_cases h1 : n < lo
  · go_enter Try.func53, Try.ntmps53
    go_wp2
    go_ret
    exact ⟨ret_int (by omega), rfl⟩
  · by_cases h2 : hi < n
    · go_enter Try.func53, Try.ntmps53
      go_wp2
      go_ret
      exact ⟨ret_int (by omega), rfl⟩
    · go_enter Try.func53, Try.ntmps53
      go_wp2
      go_ret
      exact ⟨ret_int (by omega), rfl⟩

theorem grown_newR {a b c : World} {r row : Option Nat} (h : a.grownBy b r) (hg : b.grownBy c row) (hge : ∀ g, row = some g → a.heap.size ≤ g) : a.grownBy c r :=
  ⟨hg.os.trans h.os, hg.tape.trans h.tape, hg.output.trans h.output, Nat.le_trans h.size hg.size, fun k hk hr => (hg.block k (Nat.lt_of_lt_of_le hk h.size) (by intro e; have := hge k e.symm; omega)).trans (h.block k hk hr)⟩

theorem append_intR {w : World} {ops : Array Oper} {rest : List Oper} {o : Oper} {a : Act} {Q : Exit → Act → World → Prop} (hgd : o.guard = none) (s x : Operand)
    (ho : o.op = .call { callee := .builtin .append, args := #[s, x], argTypes := #[27, 27] })
    (B : World) (r : Option Nat) (v : Value) (n : Nat) (xs : List Int) (hs : a.eval s = v) (hown : w.ownsRow B.heap.size 3 1 v n (xs.map (Value.int .i64))) (z : Int) (hx : a.eval x = .slice (some ⟨w.heap.size, 0, none⟩) 1 1)
    (hb : n + 1 ≤ 1000000) (hB : B.grownBy w r)
    (h : ∀ v' w', w'.ownsRow B.heap.size 3 1 v' (n + 1) ((xs ++ [z]).map (Value.int .i64)) → B.grownBy w' r → w.grownBy w' v.ownBlock → wpList Try.prog ops Q rest (a.put o.dst v') w') :
    wpList Try.prog ops Q (o :: rest) a (w.alloc (.cells #[.int .i64 z] 3)) := by
  obtain ⟨i0, hi, hz0, hz1, hz2⟩ := info_parts info_bd
  refine wpList_append_own _ hgd s x 27 ho B.heap.size 3 i0 (.int .i64 0) 1 8 Try.underlying27 hi hz0 hz1 hz2 rfl (by decide) v n _ hs (hown.alloc _) ⟨w.heap.size, 0, none⟩ 1 1 [.int .i64 z] hx rfl (cell_one_new _ _ _) (by intro u hu; simp at hu; subst hu; rfl) (by unfold maxLen; omega) (by omega) (by have := hB.size; simp; omega) ?_
  intro v' w' h1 h2 _
  exact h v' w' (by rw [List.map_append]; exact h1) (grown_newR (grown_trans hB (World.grownBy_alloc _ _ _)) h2 (fun g e => (hown.lt g e).1)) (grown_trans (World.grownBy_alloc _ _ _) h2)

/-- What a block's drawing leaves behind k rounds. -/
structure Dr (w : World) (tb : Nat) (ao : Option Addr) (n cap : Nat) (zs : List Int) (p : Nat) (wr : World) (v : Value) (k : Nat) : Prop where
  own : ∃ xs : List Int, wr.ownsRow w.heap.size 3 1 v k (xs.map (Value.int .i64))
  cur : ∃ q, q ≤ p + 8 * k ∧ Cur wr tb ao n cap zs q
  grown : w.grownBy wr (some tb)

set_option maxRecDepth 20000 in
set_option maxHeartbeats 1600000 in
theorem drawBlock (tb : Nat) (ao : Option Addr) (n cap p : Nat) (zs : List Int) (w : World) (h : Cur w tb ao n cap zs p) (hp : p ≤ 1000000) (most : Int) (hm : 1 ≤ most ∧ most ≤ 100000) :
    Calls Try.prog 49 #[.pointer (some ⟨tb, 0, none⟩), .int .i64 most] w fun e w' => ∃ v, e = .returned v ∧ Dr w tb ao n cap zs p w' v 64 := by
  have hlt := h.lt
  have HAL := hide h.rd.lt
  have e1 := i64_in (2 * most) (by omega)
  have e2 := i64_in (2 * most + 1) (by omega)
  have HD0 : Hid (Dr w tb ao n cap zs p (w.alloc (.cells #[] 3)) (.slice (some ⟨w.heap.size, 0, none⟩) 0 0) 0) :=
    ⟨⟨[], World.ownsRow_lit w #[] 0 (Nat.le_refl _) (by unfold maxLen; omega) rfl⟩, ⟨p, by omega, h.grown (World.grownBy_alloc _ _ _)⟩, World.grownBy_alloc _ _ _⟩
  clear h
  go_enter Try.func49, Try.ntmps49
  go_wp2
  go_loopw [5, 6] (fun o i wr => ∃ k : Nat, k ≤ 64 ∧ i = .int .i64 k ∧ Hid (Dr w tb ao n cap zs p wr o k)) (fun _ i _ => 64 - (intOf i).toNat)
  case atStart => exact ⟨0, Nat.zero_le _, rfl, HD0⟩
  case round =>
    obtain ⟨k, hk, rfl, hM⟩ := hrel
    obtain ⟨⟨xs, hown⟩, ⟨q, hq, hcur⟩, hgr⟩ := unhide hM
    obtain ⟨so2, sc2, rfl⟩ := own_form hown
    have HO := hide hown
    have HC := hide hcur
    have HG := hide hgr
    have HSL : Hid (∀ g, (Value.slice so2 k sc2).ownBlock = some g → w.heap.size ≤ g) := fun g e => (hown.lt g e).1
    clear hM hown hcur hgr
    have HEND : Hid (∀ (wx wy : World) (v' : Value) (ys : List Int) (q' : Nat), q' ≤ q + 8 → Cur wx tb ao n cap zs q' → wx.grownBy wy (Value.slice so2 k sc2).ownBlock → w.grownBy wy (some tb) → wy.ownsRow w.heap.size 3 1 v' (k + 1) (ys.map (Value.int .i64)) → Dr w tb ao n cap zs p wy v' (k + 1)) := by
      intro wx wy v' ys q' h1 h2 h3 h4 h5
      refine ⟨⟨ys, h5⟩, ⟨q', by omega, h2.beside h3 (fun g e => ?_)⟩, h4⟩
      have hg := unhide HSL g e
      exact ⟨by omega, fun hn b off e2 => by have := unhide HAL hn b off e2; omega⟩
    have HOW : Hid (∀ wx, wr.grownBy wx (some tb) → wx.ownsRow w.heap.size 3 1 (.slice so2 k sc2) k (xs.map (Value.int .i64))) := fun wx hg => own_beneath (unhide HO) hg (fun g g' e1 e2 => by have := unhide HSL g e1; simp at e2; omega)
    by_cases hlt64 : k < 64
    · go_wp2_with fail
      refine (pick_of tb ao n cap q 4 zs wr (unhide HC) (by omega) (by omega) (by omega)).mono ?_
      rintro e w1 ⟨x, q1, rfl, hx0, hx1, hc1, hq1, g1⟩
      have HC1 := hide hc1
      have HG1 := hide g1
      clear hc1 g1 HC
      by_cases hx : x = 0
      · subst hx
        go_wp2_with fail
        refine (pick_of tb ao n cap q1 (2 * most + 1) zs w1 (unhide HC1) (by omega) (by omega) (by omega)).mono ?_
        rintro e w2 ⟨y, q2, rfl, hy0, hy1, hc2, hq2, g2⟩
        have HC2 := hide hc2
        have HG2 := hide (grown_trans (unhide HG1) g2)
        clear hc2 g2 HC1 HG1
        go_wp2_with fail
        refine (once_of tb ao n cap q2 2 zs w2 (unhide HC2) (by omega) (by omega) (by omega)).mono ?_
        rintro e w3 ⟨t, q3, rfl, hc3, hq3, g3⟩
        have HC3 := hide hc3
        have HG3 := hide (grown_trans (unhide HG2) g3)
        clear hc3 g3 HC2 HG2
        cases t with
        | true =>
          go_wp2_with fail
          refine (pick_of tb ao n cap q3 9 zs w3 (unhide HC3) (by omega) (by omega) (by omega)).mono ?_
          rintro e w4 ⟨z, q4, rfl, hz0, hz1, hc4, hq4, g4⟩
          have HC4 := hide hc4
          have HG4 := hide (grown_trans (unhide HG3) g4)
          clear hc4 g4 HC3 HG3
          go_wp2_with fail
          refine (specClip (z - 4) (-most) most (by omega) w4).mono ?_
          rintro e w5 ⟨rfl, rfl⟩
          go_wp2_with (at_builtin; refine append_intR rfl _ _ rfl w (some tb) _ k xs rfl (unhide HOW _ (unhide HG4)) _ rfl (by omega) (grown_trans (unhide HG) (unhide HG4)) ?_; intro v' w' ho hg hg2)
          go_roundw
          case rel => exact ⟨k + 1, by omega, by go_num, unhide HEND _ _ _ _ q4 (by omega) (unhide HC4) hg2 hg ho⟩
          case measure => simp [intOf]; omega
        | false =>
          go_wp2_with fail
          refine (specClip (y - most) (-most) most (by omega) w3).mono ?_
          rintro e w5 ⟨rfl, rfl⟩
          go_wp2_with (at_builtin; refine append_intR rfl _ _ rfl w (some tb) _ k xs rfl (unhide HOW _ (unhide HG3)) _ rfl (by omega) (grown_trans (unhide HG) (unhide HG3)) ?_; intro v' w' ho hg hg2)
          go_roundw
          case rel => exact ⟨k + 1, by omega, by go_num, unhide HEND _ _ _ _ q3 (by omega) (unhide HC3) hg2 hg ho⟩
          case measure => simp [intOf]; omega
      · go_wp2_with fail
        refine (specClip 0 (-most) most (by omega) w1).mono ?_
        rintro e w5 ⟨rfl, rfl⟩
        go_wp2_with (at_builtin; refine append_intR rfl _ _ rfl w (some tb) _ k xs rfl (unhide HOW _ (unhide HG1)) _ rfl (by omega) (grown_trans (unhide HG) (unhide HG1)) ?_; intro v' w' ho hg hg2)
        go_roundw
        case rel => exact ⟨k + 1, by omega, by go_num, unhide HEND _ _ _ _ q1 (by omega) (unhide HC1) hg2 hg ho⟩
        case measure => simp [intOf]; omega
    · obtain rfl : k = 64 := by omega
      go_wp2
      go_ret
      exact ⟨_, rfl, ⟨⟨xs, unhide HO⟩, ⟨q, hq, unhide HC⟩, unhide HG⟩⟩

theorem own_cap {w : World} {base : Nat} {e : TypeId} {ao : Option Addr} {n cap : Nat} {xs : List Value} (h : w.ownsRow base e 1 (.slice ao n cap) n xs) : n ≤ cap := by
  rcases h.2 with ⟨h1, h2⟩ | ⟨g, cap', cur, h1, _, _, h4, _⟩
  · omega
  · simp only [Value.slice.injEq, true_and] at h1
    omega

end Go.Proofs.Ytmomfopbdpgcgaa
