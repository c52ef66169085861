/-
  The walk of what draws a frame and a list of components.
-/
import Derived.Test.YtoeehfjbnbbijaaFrameAny
import Derived.Test.YtoeehfjbnbbijaaFrameBackPure
namespace Go.Proofs.Ytoeehfjbnbbijaa
open Go.RowKit

theorem info_c : (Try.prog.info? 3).map (fun i => (i.zero, i.size, i.bytes)) = some (some (.int .i64 0), 1, 8) := by kernel_rfl
theorem grown_newC {a b c : World} {r row : Option Nat} (h : a.grownBy b r) (hg : b.grownBy c row) (hge : ∀ g, row = some g → a.heap.size ≤ g) : a.grownBy c r :=
  ⟨hg.os.trans h.os, hg.tape.trans h.tape, hg.output.trans h.output, Nat.le_trans h.size hg.size, fun k hk hr => (hg.block k (Nat.lt_of_lt_of_le hk h.size) (by intro e; have := hge k e.symm; omega)).trans (h.block k hk hr)⟩

theorem grown_newC' {a b c : World} {r : Option Nat} (h : a.grownBy b none) (hg : b.grownBy c r) : a.grownBy c r :=
  ⟨hg.os.trans h.os, hg.tape.trans h.tape, hg.output.trans h.output, Nat.le_trans h.size hg.size, fun k hk hr => (hg.block k (Nat.lt_of_lt_of_le hk h.size) hr).trans (h.block k hk (by simp))⟩

theorem append_intC {w : World} {ops : Array Oper} {rest : List Oper} {o : Oper} {a : Act} {Q : Exit → Act → World → Prop} (hgd : o.guard = none) (s x : Operand)
    (ho : o.op = .call { callee := .builtin .append, args := #[s, x], argTypes := #[29, 29] })
    (B : World) (r : Option Nat) (v : Value) (n : Nat) (xs : List Int) (hs : a.eval s = v) (hown : w.ownsRow B.heap.size 3 1 v n (xs.map (Value.int .i64))) (z : Int) (hx : a.eval x = .slice (some ⟨w.heap.size, 0, none⟩) 1 1)
    (hb : n + 1 ≤ 1000000) (hB : B.grownBy w r)
    (h : ∀ v' w', w'.ownsRow B.heap.size 3 1 v' (n + 1) ((xs ++ [z]).map (Value.int .i64)) → B.grownBy w' r → w.grownBy w' v.ownBlock → wpList Try.prog ops Q rest (a.put o.dst v') w') :
    wpList Try.prog ops Q (o :: rest) a (w.alloc (.cells #[.int .i64 z] 3)) := by
  obtain ⟨i0, hi, hz0, hz1, hz2⟩ := info_parts info_c
  refine wpList_append_own _ hgd s x 29 ho B.heap.size 3 i0 (.int .i64 0) 1 8 Try.underlying29 hi hz0 hz1 hz2 rfl (by decide) v n _ hs (hown.alloc _) ⟨w.heap.size, 0, none⟩ 1 1 [.int .i64 z] hx rfl (cell_one_new _ _ _) (by intro u hu; simp at hu; subst hu; rfl) (by unfold maxLen; omega) (by omega) (by have := hB.size; simp; omega) ?_
  intro v' w' h1 h2 _
  exact h v' w' (by rw [List.map_append]; exact h1) (grown_newC (grown_trans hB (World.grownBy_alloc _ _ _)) h2 (fun g e => (hown.lt g e).1)) (grown_trans (World.grownBy_alloc _ _ _) h2)

/-- What the drawing of components leaves behind k rounds: a row of j numbers. -/
structure Dc (w : World) (tb : Nat) (ao : Option Addr) (n cap : Nat) (zs : List Int) (wr : World) (v : Value) (j q : Nat) : Prop where
  own : ∃ xs : List Int, wr.ownsRow w.heap.size 3 1 v j (xs.map (Value.int .i64))
  cur : Cur wr tb ao n cap zs q
  grown : w.grownBy wr (some tb)

set_option maxRecDepth 20000 in
set_option maxHeartbeats 1600000 in
theorem drawComps (tb : Nat) (ao : Option Addr) (n cap p : Nat) (zs : List Int) (w : World) (h : Cur w tb ao n cap zs p) (hp : p ≤ 1000000) (hcode : 0 < n → ∀ b off, ao = some ⟨b, off, none⟩ → b < w.heap.size) (p0 wd0 ht0 rs0 : Int) (bo : Option Addr) (m bc : Nat) (hm : m ≤ 5) :
    Calls Try.prog 53 #[.pointer (some ⟨tb, 0, none⟩), .agg #[.int .i64 p0, .int .i64 wd0, .int .i64 ht0, .int .i64 rs0, .slice bo m bc]] w fun e w' => ∃ v j, e = .returned v ∧ j ≤ 6 ∧ (∃ xs : List Int, w'.ownsRow w.heap.size 3 1 v j (xs.map (Value.int .i64))) ∧ w.grownBy w' (some tb) := by
  have hlt := h.lt
  have HAL := hide hcode
  obtain ⟨wx, hW0⟩ : ∃ wx, w.alloc (.cells #[.int .i64 p0, .int .i64 wd0, .int .i64 ht0, .int .i64 rs0, .slice bo m bc] 40) = wx := ⟨_, rfl⟩
  have G0 : w.grownBy wx none := by rw [← hW0]; exact grown_alloc (World.grownBy.refl _ _) _
  have B0 : Hid (wx.heap[w.heap.size]? = some (.cells #[.int .i64 p0, .int .i64 wd0, .int .i64 ht0, .int .i64 rs0, .slice bo m bc] 40 (0, 0))) := by rw [← hW0]; exact heap_alloc_new w _
  have hwz : wx.heap.size = w.heap.size + 1 := by rw [← hW0]; simp
  have HC4 : Hid (∀ wr, wx.grownBy wr (some tb) → wr.cell? ⟨w.heap.size, 4, none⟩ = some (.slice bo m bc)) := fun wr hg => (frameCells5 ((hg.block w.heap.size (by omega) (by simp; omega)).trans (unhide B0))).2.2.2.2
  have HD0 : Hid (Dc wx tb ao n cap zs (wx.alloc (.cells #[] 3)) (.slice (some ⟨w.heap.size + 1, 0, none⟩) 0 0) 0 p) :=
    ⟨⟨[], by have := World.ownsRow_lit (e := 3) (size := 1) wx #[] 0 (Nat.le_refl _) (by unfold maxLen; omega) rfl; rw [hwz] at this; rw [hwz]; exact this⟩, h.grown (grown_trans G0 (World.grownBy_alloc _ _ _)), World.grownBy_alloc _ _ _⟩
  obtain ⟨wy, hW1⟩ : ∃ wy, wx.alloc (.cells #[] 3) = wy := ⟨_, rfl⟩
  rw [hW1] at HD0
  have HWY : Hid ((w.alloc (.cells #[.int .i64 p0, .int .i64 wd0, .int .i64 ht0, .int .i64 rs0, .slice bo m bc] 40)).alloc (.cells #[] 3) = wy) := by rw [hW0]; exact hW1
  have HG0 := hide G0
  have HZ : Hid (wx.heap.size = w.heap.size + 1) := hwz
  have HNT : Hid (∀ g, wx.heap.size ≤ g → g ≠ tb ∧ (0 < n → ∀ b off, ao = some ⟨b, off, none⟩ → b ≠ g)) := fun g hg => ⟨by omega, fun h0 b off e => by have := hcode h0 b off e; omega⟩
  have hlx : tb < wx.heap.size := by omega
  have HLX := hide hlx
  clear h G0 B0 hW0 hW1 hwz hlx hcode
  go_enter Try.func53, Try.ntmps53
  go_wp2_with fail
  rw [unhide HWY]
  clear HWY
  go_loopw [5, 6] (fun o i wr => ∃ k j q : Nat, k ≤ m ∧ i = .int .i64 k ∧ j ≤ k ∧ q ≤ p + 2 * k ∧ Hid (Dc wx tb ao n cap zs wr o j q)) (fun _ i _ => m - (intOf i).toNat)
  case atStart => exact ⟨0, 0, p, Nat.zero_le _, rfl, Nat.le_refl _, by omega, HD0⟩
  case round =>
    obtain ⟨k, j, q, hk, rfl, hj, hq, hM⟩ := hrel
    obtain ⟨⟨xs, hown⟩, hcur, hgr⟩ := unhide hM
    obtain ⟨so2, sc2, rfl⟩ := own_form hown
    have hc4 := unhide HC4 wr hgr
    have HO := hide hown
    have HC := hide hcur
    have HG := hide hgr
    have HSL : Hid (∀ g, (Value.slice so2 j sc2).ownBlock = some g → wx.heap.size ≤ g) := fun g e => (hown.lt g e).1
    have HOW : Hid (∀ wv, wr.grownBy wv (some tb) → wv.ownsRow wx.heap.size 3 1 (.slice so2 j sc2) j (xs.map (Value.int .i64))) := fun wv hg => own_beneath (unhide HO) hg (fun g g' e1 e2 => by have := unhide HSL g e1; have := unhide HLX; simp at e2; omega)
    clear hM hown hcur hgr
    by_cases hlt2 : k < m
    · go_wp2_with fail
      refine (once_of tb ao n cap q 2 zs wr (unhide HC) (by omega) (by omega) (by omega)).mono ?_
      rintro e w1 ⟨t, q1, rfl, hc1, hq1, g1⟩
      have HC1 := hide hc1
      have HG1 := hide (grown_trans (unhide HG) g1)
      have HO1 := hide (unhide HOW w1 g1)
      clear hc1 g1 HC HG
      cases t with
      | false =>
        go_wp2
        go_roundw
        case rel => exact ⟨k + 1, j, q1, by omega, by go_num, by omega, by omega, ⟨xs, unhide HO1⟩, unhide HC1, unhide HG1⟩
        case measure => simp [intOf]; omega
      | true =>
        go_wp2_with (at_builtin; refine append_intC rfl _ _ rfl wx (some tb) (.slice so2 j sc2) j xs rfl (unhide HO1) k rfl (by omega) (unhide HG1) ?_; intro v' w2 h1 h2 h3)
        have HE : Hid (Dc wx tb ao n cap zs w2 v' (j + 1) q1) := ⟨⟨_, h1⟩, (unhide HC1).beside h3 (fun g e => unhide HNT g (unhide HSL g e)), h2⟩
        clear h1 h2 h3
        go_wp2
        go_roundw
        case rel => exact ⟨k + 1, j + 1, q1, by omega, by go_num, by omega, by omega, HE⟩
        case measure => simp [intOf]; omega
    · obtain rfl : k = m := by omega
      go_wp2_with fail
      refine (once_of tb ao n cap q 10 zs wr (unhide HC) (by omega) (by omega) (by omega)).mono ?_
      rintro e w1 ⟨t, q1, rfl, hc1, hq1, g1⟩
      have HC1 := hide hc1
      have HG1 := hide (grown_trans (unhide HG) g1)
      have HO1 := hide (unhide HOW w1 g1)
      have HW1 := hide g1
      clear hc1 g1 HC HG
      cases t with
      | false =>
        go_wp2
        go_ret
        exact ⟨_, j, rfl, by omega, ⟨xs, own_base (unhide HO1) (by have := unhide HZ; omega)⟩, grown_newC' (unhide HG0) (unhide HG1)⟩
      | true =>
        go_wp2_with fail
        refine (pick_of tb ao n cap q1 6 zs w1 (unhide HC1) (by omega) (by omega) (by omega)).mono ?_
        rintro e w2 ⟨x, q2, rfl, hx0, hx1, hc2, hq2, g2⟩
        have HG2 := hide (grown_trans (unhide HG1) g2)
        have HO2 := hide (unhide HOW w2 (grown_trans (unhide HW1) g2))
        clear hc2 g2 HC1 HG1 HO1
        go_wp2_with (at_builtin; refine append_intC rfl _ _ rfl wx (some tb) (.slice so2 j sc2) j xs rfl (unhide HO2) (x - 1) rfl (by omega) (unhide HG2) ?_; intro v' w3 h1 h2 h3)
        have HE : Hid (w3.ownsRow wx.heap.size 3 1 v' (j + 1) ((xs ++ [x - 1]).map (Value.int .i64)) ∧ wx.grownBy w3 (some tb)) := ⟨h1, h2⟩
        clear h1 h2 h3
        go_wp2
        go_ret
        exact ⟨_, j + 1, rfl, by omega, ⟨_, own_base (unhide HE).1 (by have := unhide HZ; omega)⟩, grown_newC' (unhide HG0) (unhide HE).2⟩

set_option maxRecDepth 20000 in
set_option maxHeartbeats 1600000 in
theorem drawOrderOf (ao : Option Addr) (n cap : Nat) (zs : List Int) (w : World) (hr : Rd .u8 w ao n zs) (hb : ∀ i, 0 ≤ zs.getD i 0 ∧ zs.getD i 0 ≤ 255) (hn : n ≤ 1048576) :
    Calls Try.prog 28 #[.slice ao n cap] w fun e w' => ∃ (p0 wd0 ht0 rs0 : Int) (C : Nat → Nat → Int) (m bc : Nat) (bo co : Option Addr) (j cc : Nat) (cs : List Int), e = .returned (.tuple #[.agg #[.int .i64 p0, .int .i64 wd0, .int .i64 ht0, .int .i64 rs0, .slice bo m bc], .slice co j cc]) ∧ m ≤ 5 ∧ RdC w' bo m C ∧ j ≤ 6 ∧ Rd .i64 w' co j cs ∧ w.grownBy w' none := by
  have hlt := hr.lt
  have HB := hide hb
  have HL := hide hlt
  have G0 : Hid (w.grownBy (w.alloc (.cells #[.int .i64 0, .int .i64 0, .int .i64 0, .int .i64 0, .slice none 0 0] 40)) none) := grown_alloc (World.grownBy.refl _ _) _
  have HB0 := hide (heap_alloc_new w (.cells #[.int .i64 0, .int .i64 0, .int .i64 0, .int .i64 0, .slice none 0 0] 40))
  have hgs : w.heap.size < (w.alloc (.cells #[.int .i64 0, .int .i64 0, .int .i64 0, .int .i64 0, .slice none 0 0] 40)).heap.size := by simp
  have HR := hide (hr.grown (unhide G0))
  clear hr hb hlt
  go_enter Try.func28, Try.ntmps28
  go_wp2_with fail
  generalize (w.alloc (.cells #[.int .i64 0, .int .i64 0, .int .i64 0, .int .i64 0, .slice none 0 0] 40)) = wx at *
  refine (open_of ao n cap zs wx (unhide HR) (unhide HB) hn).mono ?_
  rintro e w1 ⟨rfl, c1, g1⟩
  have hs1 := g1.size
  have htb := c1.lt
  have HC1 : Hid (0 < n → ∀ b off, ao = some ⟨b, off, none⟩ → b < w1.heap.size) := fun h b off e => by have := unhide HL h b off e; omega
  have C1 := hide c1
  clear c1
  go_wp2_with fail
  refine (drawAny wx.heap.size ao n cap 0 zs w1 (unhide C1) (by omega) (unhide HC1) 8 (by omega) (by omega)).mono ?_
  rintro e w2 ⟨p0, wd0, ht0, rs0, C, m, bc, q, bo, rfl, hm1, hm5, o2, c2, hq, g2⟩
  have hs2 := g2.size
  have G2 : w.grownBy w2 none := grown_new (grown_trans (unhide G0) g1) g2 (fun g e => by simp at e; omega)
  have hB2 := (g2.block w.heap.size (by omega) (by simp; omega)).trans ((g1.block w.heap.size hgs (by simp)).trans (unhide HB0))
  have HAB := hide (heap_alloc_new w2 (.cells #[.int .i64 0, .int .i64 0, .int .i64 0, .int .i64 0, .slice none 0 0] 40))
  have HAG : Hid (w2.grownBy (w2.alloc (.cells #[.int .i64 0, .int .i64 0, .int .i64 0, .int .i64 0, .slice none 0 0] 40)) none) := grown_alloc (World.grownBy.refl _ _) _
  have HO2 := hide o2
  have HC2 := hide c2
  have HG2 := hide G2
  have HB2 := hide hB2
  clear o2 c2 G2 hB2 C1 g1 g2 HB0 HR G0
  go_wp2_with (refine wpList_store_row rfl 40 _ _ rfl w2.heap.size rfl #[.int .i64 p0, .int .i64 wd0, .int .i64 ht0, .int .i64 rs0, .slice bo m bc] rfl #[.int .i64 0, .int .i64 0, .int .i64 0, .int .i64 0, .slice none 0 0] 40 (unhide HAB) rfl (by kernel_rfl) (by simp [Value.oneCell']) ?_; intro w3 hB3 g3)
  have GA := grown_trans (unhide HAG) (World.grownBy.refl _ _)
  have G23 : w2.grownBy w3 none := grown_new (unhide HAG) g3 (fun g e => by simp at e; omega)
  have hs3 := G23.size
  have HO3 := hide (own_grown (unhide HO2) G23)
  have HC3 := hide ((unhide HC2).grown G23)
  have HG3 := hide (grown_trans (unhide HG2) G23)
  have HR3 : Hid (w3.heap[w.heap.size]? = some (.cells #[.int .i64 0, .int .i64 0, .int .i64 0, .int .i64 0, .slice none 0 0] 40 (0, 0))) := (G23.block w.heap.size (by omega) (by simp)).trans (unhide HB2)
  have HL3 : Hid (0 < n → ∀ b off, ao = some ⟨b, off, none⟩ → b < w3.heap.size) := fun h b off e => by have := unhide HL h b off e; omega
  obtain ⟨k0, k1, k2, k3, k4⟩ := frameCells5 hB3
  have HK : Hid (∀ wv, w3.grownBy wv (some wx.heap.size) → wv.heap[w2.heap.size]? = some (.cells #[.int .i64 p0, .int .i64 wd0, .int .i64 ht0, .int .i64 rs0, .slice bo m bc] 40 (0, 0)) ∧ wv.heap[w.heap.size]? = some (.cells #[.int .i64 0, .int .i64 0, .int .i64 0, .int .i64 0, .slice none 0 0] 40 (0, 0))) := fun wv hg => by
    obtain ⟨hx, _⟩ := Array.getElem?_eq_some_iff.1 hB3
    exact ⟨(hg.block w2.heap.size hx (by simp; omega)).trans hB3, (hg.block w.heap.size (by omega) (by simp; omega)).trans (unhide HR3)⟩
  have FIN : Hid (∀ wv (v : Value) (j : Nat) (xs : List Int), w3.grownBy wv (some wx.heap.size) → wv.ownsRow w3.heap.size 3 1 v j (xs.map (Value.int .i64)) → ∀ a b c d e : Value, RdC (((((wv.setCell ⟨w.heap.size, 0, none⟩ a).setCell ⟨w.heap.size, 1, none⟩ b).setCell ⟨w.heap.size, 2, none⟩ c).setCell ⟨w.heap.size, 3, none⟩ d).setCell ⟨w.heap.size, 4, none⟩ e) bo m C ∧ (∃ co cc, v = .slice co j cc ∧ Rd .i64 (((((wv.setCell ⟨w.heap.size, 0, none⟩ a).setCell ⟨w.heap.size, 1, none⟩ b).setCell ⟨w.heap.size, 2, none⟩ c).setCell ⟨w.heap.size, 3, none⟩ d).setCell ⟨w.heap.size, 4, none⟩ e) co j xs) ∧ w.grownBy (((((wv.setCell ⟨w.heap.size, 0, none⟩ a).setCell ⟨w.heap.size, 1, none⟩ b).setCell ⟨w.heap.size, 2, none⟩ c).setCell ⟨w.heap.size, 3, none⟩ d).setCell ⟨w.heap.size, 4, none⟩ e) none) := fun wv v j xs hg ho a b c d e => by
    have hs := grown_trans (grown_trans (grown_trans (grown_trans (grown_set wv w.heap.size 0 a) (grown_set _ w.heap.size 1 b)) (grown_set _ w.heap.size 2 c)) (grown_set _ w.heap.size 3 d)) (grown_set _ w.heap.size 4 e)
    have o3 := own_beneath (unhide HO3) hg (fun g' t' e e' => by have := ((unhide HO3).lt g' e).1; simp at e'; omega)
    obtain ⟨co, cc, rfl⟩ := own_form ho
    have o4 := own_beneath ho hs (fun g' t' e e' => by have := (ho.lt g' e).1; simp at e'; omega)
    exact ⟨own_rdC (own_beneath o3 hs (fun g' t' e e' => by have := (o3.lt g' e).1; simp at e'; omega)), ⟨co, cc, rfl, own_rd o4⟩, grown_new (grown_new (unhide HG3) hg (fun g' e => by simp at e; omega)) hs (fun g' e => by simp at e; omega)⟩
  clear g3 GA G23
  go_region_with (go_at_call 53; refine (drawComps wx.heap.size ao n cap q zs _ ((unhide HC3).grown (grown_drew (World.grownBy.refl _ _))) (by omega) (unhide HL3) p0 wd0 ht0 rs0 bo m bc (by omega)).mono ?_; rintro e w4 ⟨v, j, rfl, hj, ⟨xs, o4⟩, g4x⟩; have g4 : w3.grownBy w4 (some wx.heap.size) := grown_newC' (grown_drew (World.grownBy.refl _ _)) g4x; obtain ⟨f0, f1, f2, f3, f4⟩ := frameCells5 (unhide HK w4 g4).1; have fr := frameFree (unhide HK w4 g4).2; have kr := frameCells5 (unhide HK w4 g4).2)
  all_goals (obtain ⟨r1, ⟨co, cc, rfl, r2⟩, r3⟩ := unhide FIN w4 v j xs g4 o4 (.int .i64 p0) (.int .i64 wd0) (.int .i64 ht0) (.int .i64 rs0) (.slice bo m bc))
  all_goals (have HR1 := hide r1; have HR2 := hide r2; have HR3' := hide r3; clear r1 r2 r3 o4 g4x)
  all_goals go_wp2
  all_goals refine bodyPost_ret (v := .tuple #[.agg #[.int .i64 p0, .int .i64 wd0, .int .i64 ht0, .int .i64 rs0, .slice bo m bc], .slice co j cc]) (by simp [results, Try.results28, go_sem, *]) rfl ?_
  all_goals exact ⟨p0, wd0, ht0, rs0, C, m, bc, bo, co, j, cc, xs, rfl, by omega, unhide HR1, hj, unhide HR2, unhide HR3'⟩

end Go.Proofs.Ytoeehfjbnbbijaa
