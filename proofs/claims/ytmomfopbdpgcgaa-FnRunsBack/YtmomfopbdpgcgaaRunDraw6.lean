/-
  Items that are drawn: the whole walk.
-/
import Derived.Test.YtmomfopbdpgcgaaRunDraw5
namespace Go.Proofs.Ytmomfopbdpgcgaa
open Go.RowKit

set_option maxRecDepth 20000 in
set_option maxHeartbeats 3200000 in
theorem drawFromRuns (ao : Option Addr) (n cap : Nat) (zs : List Int) (w : World) (hr : Rd .u8 w ao n zs) (hb : ∀ i, 0 ≤ zs.getD i 0 ∧ zs.getD i 0 ≤ 255) (hn : n ≤ 1048576) :
    Calls Try.prog 21 #[.slice ao n cap] w fun e w' => ∃ (io : Option Addr) (m ic : Nat) (I : List It) (z : Int), e = .returned (.tuple #[.slice io m ic, .int .i64 z]) ∧ m ≤ 65 ∧ (-1 ≤ z ∧ z ≤ 65) ∧ RdT w' io m I ∧ w.grownBy w' none := by
  have HLT := hide hr.lt
  have HR := hide hr
  have HB := hide hb
  clear hr hb
  go_enter Try.func21, Try.ntmps21
  go_wp2_with fail
  refine (open_of ao n cap zs w (unhide HR) (unhide HB) hn).mono ?_
  rintro e w1 ⟨rfl, c1, g1⟩
  have hs1 := g1.size
  have hc1 := c1.lt
  have HC1 : Hid (0 < n → ∀ b off, ao = some ⟨b, off, none⟩ → b < w1.heap.size) := fun h b off e => by have := unhide HLT h b off e; omega
  have G1 := hide g1
  have C1 := hide c1
  clear c1 g1
  go_wp2_with fail
  refine (drawList w.heap.size ao n cap 0 zs w1 (unhide C1) (by omega) (unhide HC1)).mono ?_
  rintro e w2 ⟨v, ys, q2, rfl, hys, o2, c2, hq2, g2⟩
  obtain ⟨so, sc, rfl⟩ := own_form o2
  have hs2 := g2.size
  have O2 := hide o2
  have C2 := hide c2
  have G2 := hide (grown_new (unhide G1) g2 (fun g e => by simp at e; omega) : w.grownBy w2 none)
  clear o2 c2 g2 C1 G1
  go_wp2_with fail
  refine (specRunsOf so ys.length sc ys w2 (own_rd (unhide O2))).mono ?_
  have hIl := runsG_len ys
  generalize runsG ys = I at *
  rintro e w3 ⟨v, rfl, o3, g3⟩
  obtain ⟨io, ic, rfl⟩ := own_form o3
  have O3 := hide o3
  have C3 := hide ((unhide C2).grown g3)
  have G3 := hide (grown_trans (unhide G2) g3)
  clear o3 g3 C2 G2 O2
  go_wp2_with fail
  refine (pick_of w.heap.size ao n cap q2 6 zs w3 (unhide C3) (by omega) (by omega) (by omega)).mono ?_
  rintro e w4 ⟨x, q4, rfl, hx0, hx1, c4, hq4, g4⟩
  have O4 := hide (own_base (own_beneath (unhide O3) g4 (fun a b e1 e2 => by have := ((unhide O3).lt a e1).1; simp at e2; omega)) (show w.heap.size ≤ w2.heap.size by omega))
  have OG : Hid (∀ g, (Value.slice io I.length ic).ownBlock = some g → w2.heap.size ≤ g) := fun g e => ((unhide O3).lt g e).1
  have C4 := hide c4
  have G4 := hide (grown_new (unhide G3) g4 (fun g e => by simp at e; omega) : w.grownBy w4 none)
  clear c4 g4 O3 C3 G3
  have hzI : (-1 : Int) ≤ (ys.length : Int) ∧ (ys.length : Int) ≤ 65 := by omega
  have OUT : Hid (RdT w4 io I.length I ∧ w.grownBy w4 none) := ⟨own_rdT (unhide O4), unhide G4⟩
  by_cases h0 : x = 0
  · subst h0
    go_wp2_with fail
    refine (pick_of w.heap.size ao n cap q4 67 zs w4 (unhide C4) (by omega) (by omega) (by omega)).mono ?_
    rintro e w5 ⟨y, q5, rfl, hy0, hy1, c5, hq5, g5⟩
    have HF : Hid (RdT w5 io I.length I ∧ w.grownBy w5 none) := ⟨own_rdT (own_beneath (unhide O4) g5 (fun a b e1 e2 => by have := unhide OG a e1; simp at e2; omega)), grown_new (unhide G4) g5 (fun g e => by simp at e; omega)⟩
    have e1 := i64_in (y - 1) (by omega)
    clear c5 g5
    go_wp2
    refine bodyPost_ret (v := .tuple #[.slice io I.length ic, .int .i64 (y - 1)]) (by simp [results, Try.results21, go_sem, *]) rfl ?_
    exact ⟨io, I.length, ic, I, y - 1, rfl, by omega, by omega, (unhide HF).1, (unhide HF).2⟩
  have hx00 : (x == 0) = false := beq_false_of_ne h0
  by_cases h1 : x = 1
  · subst h1
    go_wp2_with fail
    refine (pick_of w.heap.size ao n cap q4 17 zs w4 (unhide C4) (by omega) (by omega) (by omega)).mono ?_
    rintro e w5 ⟨a, q5, rfl, ha0, ha1, c5, hq5, g5⟩
    have C5 := hide c5
    have G5 := hide g5
    clear c5 g5
    go_wp2_with fail
    refine (pick_of w.heap.size ao n cap q5 4 zs w5 (unhide C5) (by omega) (by omega) (by omega)).mono ?_
    rintro e w6 ⟨b, q6, rfl, hb0, hb1, c6, hq6, g6⟩
    have C6 := hide c6
    have G6 := hide (grown_trans (unhide G5) g6)
    clear c6 g6 C5 G5
    go_wp2_with fail
    refine (pick_of w.heap.size ao n cap q6 5 zs w6 (unhide C6) (by omega) (by omega) (by omega)).mono ?_
    rintro e w7 ⟨c, q7, rfl, hc0, hc1, c7, hq7, g7⟩
    have G7 := grown_trans (unhide G6) g7
    have O7 := hide (own_beneath (unhide O4) G7 (fun a b e1 e2 => by have := unhide OG a e1; simp at e2; omega))
    have GW : Hid (w.grownBy w7 none) := grown_new (unhide G4) G7 (fun g e => by simp at e; omega)
    clear c7 g7 C6 G6 G7
    go_wp2_with (at_builtin; refine append_item rfl _ _ rfl w (.slice io I.length ic) I rfl (unhide O7) a b c rfl (by omega) (unhide GW) ?_; intro v' w8 ho8 hg8)
    obtain ⟨io', ic', rfl⟩ := own_form ho8
    have HF := hide (And.intro (own_rdT ho8) hg8)
    have hl8 : (I ++ [(a, b, c)]).length ≤ 65 := by simp; omega
    generalize I ++ [(a, b, c)] = I8 at *
    clear ho8 hg8
    go_wp2
    refine bodyPost_ret (v := .tuple #[.slice io' I8.length ic', .int .i64 (ys.length : Int)]) (by simp [results, Try.results21, go_sem, *]) rfl ?_
    exact ⟨io', _, ic', I8, _, rfl, hl8, hzI, (unhide HF).1, (unhide HF).2⟩
  have hx11 : (x == 1) = false := beq_false_of_ne h1
  by_cases h2 : x = 2
  · subst h2
    by_cases hI0 : 0 < I.length
    · have hd : decide ((0 : Int) < (I.length : Int)) = true := decide_eq_true (by omega)
      obtain ⟨g, rfl, _, _⟩ := own_at (unhide O4) hI0
      go_wp2_with fail
      refine (pick_any w.heap.size ao n cap q4 I.length zs w4 (unhide C4) (by omega) (by omega) (by omega)).mono ?_
      rintro e w5 ⟨kz, q5, rfl, hk0, hk1, c5, hq5, g5⟩
      obtain ⟨k, rfl⟩ := Int.eq_ofNat_of_zero_le hk0
      have hkI : k < I.length := by omega
      have O5 := own_beneath (unhide O4) g5 (fun a b e1 e2 => by have := unhide OG a e1; simp at e2; omega)
      have G5 : w.grownBy w5 none := grown_new (unhide G4) g5 (fun g e => by simp at e; omega)
      have hg5 := G5.size
      have hgl := O5.lt g rfl
      have hog := unhide OG g rfl
      have hlt5 := c5.lt
      obtain ⟨i0', i1', i2'⟩ := itCells_at I k hkI
      generalize I[k].1 = x0 at *
      generalize I[k].2.1 = x1 at *
      generalize I[k].2.2 = x2 at *
      have a0 := (O5.cellAt (k * 3) (by omega)).trans i0'
      have a1 := (O5.cellAt (k * 3 + 1) (by omega)).trans i1'
      have a2 := (O5.cellAt (k * 3 + 2) (by omega)).trans i2'
      have LY : Hid (Ly w w.heap.size ao n w5.heap.size g) := ⟨by omega, by omega, by omega, hg5, hgl.1, Nat.le_refl _, unhide HLT⟩
      have BX : Hid (Bx w w.heap.size ao n cap zs w5.heap.size g ic I (w5.alloc (.cells #[.int .i64 x0, .int .i64 x1, .int .i64 x2] 52)) x0 x1 x2 q5) := ⟨O5.alloc _, heap_alloc_new _ _, c5.grown (World.grownBy_alloc _ _ _), grown_alloc G5 _⟩
      obtain ⟨w6, hw6⟩ : ∃ w6, w5.alloc (.cells #[.int .i64 x0, .int .i64 x1, .int .i64 x2] 52) = w6 := ⟨_, rfl⟩
      rw [hw6] at BX
      have HW6 := hide hw6
      clear hw6 c5 g5 O5 G5 i0' i1' i2' OUT O4 C4 G4
      go_wp2_with fail
      rw [unhide HW6]
      obtain ⟨pb, hpb⟩ : ∃ pb, w5.heap.size = pb := ⟨_, rfl⟩
      rw [hpb] at LY BX
      rw [hpb]
      clear a0 a1 a2 HW6 hpb
      refine (odd_of w.heap.size ao n cap q5 zs w6 (unhide BX).cur (by omega)).mono ?_
      rintro e w7 ⟨y, q7, rfl, c7, hq7, g7⟩
      have B7 := (unhide BX).pick (unhide LY) c7 g7
      have hlt7 := c7.lt
      obtain ⟨w8, hw8⟩ : ∃ w8, w7.alloc (.cells #[.int .i64 0, .int .i64 15, .int .i64 16, .int .i64 y] 3) = w8 := ⟨_, rfl⟩
      have g8 : w7.grownBy w8 none := by rw [← hw8]; exact grown_alloc (World.grownBy.refl _ _) _
      have hL8 : w8.heap[w7.heap.size]? = some (.cells #[.int .i64 0, .int .i64 15, .int .i64 16, .int .i64 y] 3 (0, 0)) := by rw [← hw8]; exact heap_alloc_new _ _
      have HW8 := hide hw8
      have B8 := hide (B7.new g8)
      clear hw8 c7 g7 g8 B7 BX
      go_wp2_with fail
      rw [unhide HW8]
      refine (pick_of w.heap.size ao n cap q7 4 zs w8 (unhide B8).cur (by omega) (by omega) (by omega)).mono ?_
      rintro e w9 ⟨x9, q9, rfl, hx90, hx91, c9, hq9, g9⟩
      obtain ⟨i9, rfl⟩ := Int.eq_ofNat_of_zero_le hx90
      have hL9 := (g9.block w7.heap.size (Array.getElem?_eq_some_iff.1 hL8).1 (by simp; omega)).trans hL8
      obtain ⟨y9, hy9⟩ : ∃ y9 : Int, w9.cell? ⟨w7.heap.size, i9, none⟩ = some (.int .i64 y9) := by
        rw [cell_of_row w9 _ i9 _ _ (0, 0) hL9]
        have : i9 = 0 ∨ i9 = 1 ∨ i9 = 2 ∨ i9 = 3 := by omega
        rcases this with rfl | rfl | rfl | rfl <;> exact ⟨_, rfl⟩
      have B9 := (unhide B8).pick (unhide LY) c9 g9
      obtain ⟨⟨f0, f1, f2⟩, fz⟩ := B9.cells
      have fz0 := fz 0
      have BA := hide (B9.at0 (unhide LY) y9)
      obtain ⟨wA, hwA⟩ : ∃ wA, w9.setCell ⟨pb, 0, none⟩ (.int .i64 y9) = wA := ⟨_, rfl⟩
      rw [hwA] at BA
      have HWA := hide hwA
      clear hwA B9 B8 c9 g9 hL8 hL9 fz HW8
      go_wp2_with fail
      rw [unhide HWA]
      refine (once_of w.heap.size ao n cap q9 2 zs wA (unhide BA).cur (by omega) (by omega) (by omega)).mono ?_
      rintro e wB ⟨t, qB, rfl, cB, hqB, gB⟩
      have BB := hide ((unhide BA).pick (unhide LY) cB gB)
      clear cB gB BA HWA f0 f1 f2 fz0 hy9
      cases t with
      | false =>
        have BF := BB
        obtain ⟨⟨f0, f1, f2⟩, fz⟩ := (unhide BF).cells
        obtain ⟨⟨r0', r1', r2', r0, r1, r2⟩, rf⟩ := (unhide BF).item k hkI
        have HF := hide ((unhide BF).row (unhide LY) k hkI)
        have rf0 := rf (k * 3)
        have rf1 := rf (k * 3 + 1)
        have rf2 := rf (k * 3 + 2)
        clear rf fz
        go_wp2
        refine bodyPost_ret (v := .tuple #[.slice (some ⟨g, 0, none⟩) I.length ic, .int .i64 (ys.length : Int)]) (by simp [results, Try.results21, go_sem, *]) rfl ?_
        exact ⟨_, _, ic, _, _, rfl, by omega, hzI, (unhide HF).1, (unhide HF).2⟩
      | true =>
        go_wp2_with fail
        refine (pick_of w.heap.size ao n cap qB 9 zs wB (unhide BB).cur (by omega) (by omega) (by omega)).mono ?_
        rintro e wC ⟨z, qC, rfl, hz0, hz1, cC, hqC, gC⟩
        have BC := (unhide BB).pick (unhide LY) cC gC
        obtain ⟨_, cz⟩ := BC.cells
        obtain ⟨⟨d0, d1, d2⟩, _⟩ := BC.cells
        have cz2 := cz 2
        have BF := hide (BC.at2 (unhide LY) z)
        clear cC gC BB BC cz
        obtain ⟨wD, hwD⟩ : ∃ wD, wC.setCell ⟨pb, 2, none⟩ (.int .i64 z) = wD := ⟨_, rfl⟩
        rw [hwD] at BF
        obtain ⟨⟨f0, f1, f2⟩, fz⟩ := (unhide BF).cells
        obtain ⟨⟨r0', r1', r2', r0, r1, r2⟩, rf⟩ := (unhide BF).item k hkI
        have HF := hide ((unhide BF).row (unhide LY) k hkI)
        have rf0 := rf (k * 3)
        have rf1 := rf (k * 3 + 1)
        have rf2 := rf (k * 3 + 2)
        clear rf fz
        go_wp2
        refine bodyPost_ret (v := .tuple #[.slice (some ⟨g, 0, none⟩) I.length ic, .int .i64 (ys.length : Int)]) (by simp [results, Try.results21, go_sem, *]) rfl ?_
        exact ⟨_, _, ic, _, _, rfl, by omega, hzI, (unhide HF).1, (unhide HF).2⟩
    · have hd : decide ((0 : Int) < (I.length : Int)) = false := decide_eq_false (by omega)
      go_wp2
      refine bodyPost_ret (v := .tuple #[.slice io I.length ic, .int .i64 (ys.length : Int)]) (by simp [results, Try.results21, go_sem, *]) rfl ?_
      exact ⟨io, _, ic, I, _, rfl, by omega, hzI, (unhide OUT).1, (unhide OUT).2⟩
  have hx22 : (x == 2) = false := beq_false_of_ne h2
  go_wp2
  refine bodyPost_ret (v := .tuple #[.slice io I.length ic, .int .i64 (ys.length : Int)]) (by simp [results, Try.results21, go_sem, *]) rfl ?_
  exact ⟨io, _, ic, I, _, rfl, by omega, hzI, (unhide OUT).1, (unhide OUT).2⟩

end Go.Proofs.Ytmomfopbdpgcgaa
