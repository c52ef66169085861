/-
  Tables that are drawn.
-/
import Derived.Test.YtoeehfjbnbbijabTabDraw
import Derived.Test.YtoeehfjbnbbijabTabScale
import Derived.Test.YtoeehfjbnbbijabPlainImpl
namespace Go.Proofs.Ytoeehfjbnbbijab
open Go.RowKit

set_option maxRecDepth 20000 in
theorem plain_ok : ∀ j, j < 4 → numsB 1 1023 (plainL j) = true := by decide +kernel

set_option maxRecDepth 20000 in
set_option maxHeartbeats 3200000 in
theorem drawTable (tb : Nat) (ao : Option Addr) (n cap p : Nat) (zs : List Int) (w : World) (h : Cur w tb ao n cap zs p) (hp : p ≤ 1000000) :
    Calls Try.prog 29 #[.pointer (some ⟨tb, 0, none⟩)] w fun e w' => ∃ so m sc, e = .returned (.slice so m sc) ∧ Drawn w tb ao n cap zs p w' so m := by
  have hlt := h.lt
  have HAL := hide h.rd.lt
  have H := hide h
  clear h
  go_enter Try.func29, Try.ntmps29
  go_wp2_with fail
  refine (pick_of tb ao n cap p 4 zs w (unhide H) (by omega) (by omega) (by omega)).mono ?_
  rintro e w1 ⟨kd, q1, rfl, hk0, hk1, hc1, hq1, g1⟩
  obtain ⟨j, rfl⟩ : ∃ j : Nat, kd = j := ⟨kd.toNat, by omega⟩
  have HPL : Hid (plainA (j : Int) = plainL j) := by unfold Hid plainA; rw [if_pos ⟨by omega, by omega⟩, Int.toNat_natCast]
  have HOK : Hid (numsB 1 1023 (plainL j) = true) := plain_ok j (by omega)
  have HLL : Hid ((plainL j).length = 64) := made_len _
  have HC1 := hide hc1
  have HG1 := hide g1
  clear hc1 g1 H
  go_wp2_with fail
  refine (specPlain (j : Int) w1 (plainL j) HPL).mono ?_
  rintro e w2 ⟨so, sc, rfl, ho, g2⟩
  rw [unhide HLL] at ho
  rw [unhide HLL]
  have HC2 := hide ((unhide HC1).grown g2)
  have HG2 := hide (grown_trans (unhide HG1) (grown_any g2))
  have HO2 := hide (own_base ho (unhide HG1).size)
  clear ho g2 HC1 HG1
  go_wp2_with fail
  refine (once_of tb ao n cap q1 2 zs w2 (unhide HC2) (by omega) (by omega) (by omega)).mono ?_
  rintro e w3 ⟨t, q3, rfl, hc3, hq3, g3⟩
  have HC3 := hide hc3
  have HG3 := hide (grown_trans (unhide HG2) g3)
  have HO3 := hide (own_beneath (unhide HO2) g3 (fun a b e1 e2 => by have := ((unhide HO2).lt a e1).1; simp at e2; omega))
  clear hc3 g3 HC2 HG2 HO2
  cases t with
  | false =>
    obtain ⟨g, rfl, hg0, hg1⟩ := own_at (unhide HO3) (by omega)
    have hcap := own_cap (unhide HO3)
    generalize plainL j = ys at *
    go_wp2_with fail
    refine (pick_of tb ao n cap q3 14 zs w3 (unhide HC3) (by omega) (by omega) (by omega)).mono ?_
    rintro e w7 ⟨x, q7, rfl, hx0, hx1, hc7, hq7, g7⟩
    have HC7 := hide hc7
    have HG7 := hide (grown_trans (unhide HG3) g7)
    have HO7 := hide (own_beneath (unhide HO3) g7 (fun a b e1 e2 => by have := ((unhide HO3).lt a e1).1; simp at e2; omega))
    have hg7 : g < w7.heap.size := ((unhide HO7).lt g rfl).2
    clear hc7 g7 HC3 HG3 HO3
    have HEND : Hid (∀ (w' : World) (m : Nat) (ys : List Int) (q' : Nat), q' ≤ q7 + 10 → m ≤ 65 → Rd .i64 w' (some ⟨g, 0, none⟩) m ys → Cur w' tb ao n cap zs q' → w.grownBy w' (some tb) → Drawn w tb ao n cap zs p w' (some ⟨g, 0, none⟩) m) := by
      intro w' m ys q' h1 h2 h3 h4 h5
      exact ⟨⟨ys, h3⟩, h2, fun b off e => by simp at e; omega, ⟨q', by omega, h4⟩, h5⟩
    by_cases h0 : x = 0
    · subst h0
      go_wp2_with fail
      refine (pick_of tb ao n cap q7 64 zs w7 (unhide HC7) (by omega) (by omega) (by omega)).mono ?_
      rintro e w8 ⟨y, q8, rfl, hy0, hy1, hc8, hq8, g8⟩
      obtain ⟨yn, rfl⟩ : ∃ yn : Nat, y = yn := ⟨y.toNat, by omega⟩
      have HO8 := hide (own_beneath (unhide HO7) g8 (fun a b e1 e2 => by have := ((unhide HO7).lt a e1).1; simp at e2; omega))
      have HC8 := hide hc8
      have HG8 := hide (grown_trans (unhide HG7) g8)
      have s8 := g8.size
      clear hc8 g8 HC7 HG7 HO7
      go_wp2_with fail
      refine (odd_of tb ao n cap q8 zs w8 (unhide HC8) (by omega)).mono ?_
      rintro e w9 ⟨o, q9, rfl, hc9, hq9, g9⟩
      have HO9 := hide (own_beneath (unhide HO8) g9 (fun a b e1 e2 => by have := ((unhide HO8).lt a e1).1; simp at e2; omega))
      have HC9 := hide (hc9.grown (World.grownBy_alloc w9 (.cells #[.int .i64 0, .int .i64 1023, .int .i64 1024, .int .i64 o] 3) none))
      have HG9 := hide (grown_trans (unhide HG8) g9)
      have s9 := g9.size
      have hg9 : g < w9.heap.size := by omega
      have ht9 : tb < w9.heap.size := by have := (unhide HG9).size; omega
      clear hc9 g9 HC8 HG8 HO8
      go_wp2_with fail
      refine (pick_of tb ao n cap q9 4 zs _ (unhide HC9) (by omega) (by omega) (by omega)).mono ?_
      rintro e w10 ⟨z, q10, rfl, hz0, hz1, hc10, hq10, g10⟩
      obtain ⟨zn, rfl⟩ : ∃ zn : Nat, z = zn := ⟨z.toNat, by omega⟩
      have hL := (g10.block w9.heap.size (by simp) (by simp; omega)).trans (heap_alloc_new w9 _)
      obtain ⟨u, hu⟩ : ∃ u : Int, w10.cell? ⟨w9.heap.size, zn, none⟩ = some (.int .i64 u) := by
        rw [cell_of_row w10 _ zn _ _ (0, 0) hL]
        have : zn = 0 ∨ zn = 1 ∨ zn = 2 ∨ zn = 3 := by omega
        rcases this with rfl | rfl | rfl | rfl
        · exact ⟨_, rfl⟩
        · exact ⟨_, rfl⟩
        · exact ⟨_, rfl⟩
        · exact ⟨_, rfl⟩
      have ho10 := own_beneath ((unhide HO9).alloc _) g10 (fun a b e1 e2 => by have := ((unhide HO9).lt a e1).1; simp at e2; omega)
      have hold : ∃ v, w10.cell? ⟨g, yn, none⟩ = some v := by rw [ho10.cellAt yn (by omega)]; exact ⟨_, List.getElem?_eq_getElem (by rw [ho10.1]; omega)⟩
      obtain ⟨v, hv⟩ := hold
      have hfr := ho10.frozenAt yn
      have st := ho10.stored yn (.int .i64 u)
      have HST : Hid (Drawn w tb ao n cap zs p (w10.setCell ⟨g, yn, none⟩ (.int .i64 u)) (some ⟨g, 0, none⟩) 64) := by
        rw [← List.map_set] at st
        have g11 := grown_set w10 g yn (.int .i64 u)
        refine unhide HEND _ 64 _ q10 (by omega) (by omega) (own_rd st.1) (hc10.beside g11 (fun a e => ?_)) (grown_newR (grown_trans (grown_trans (unhide HG9) (World.grownBy_alloc _ _ _)) g10) g11 (fun a e => by simp at e; omega))
        simp at e
        exact ⟨by omega, fun hn b off e2 => by have := unhide HAL hn b off e2; omega⟩
      clear hL ho10 st hc10 g10 HO9 HC9 HG9 HEND
      go_wp2
      go_ret
      exact ⟨_, _, _, rfl, unhide HST⟩
    · by_cases h1 : x = 1
      · subst h1
        have hyc : (63 : Int) ≤ (sc : Int) := by omega
        go_wp2
        go_ret
        exact ⟨_, _, _, rfl, unhide HEND _ 63 _ q7 (by omega) (by omega) (rd_take (own_rd (unhide HO7)) 63 (by omega)) (unhide HC7) (unhide HG7)⟩
      · go_wp2
        go_ret
        exact ⟨_, _, _, rfl, unhide HEND _ 64 _ q7 (by omega) (by omega) (own_rd (unhide HO7)) (unhide HC7) (unhide HG7)⟩
  | true =>
    go_wp2_with fail
    refine (pick_of tb ao n cap q3 101 zs w3 (unhide HC3) (by omega) (by omega) (by omega)).mono ?_
    rintro e w4 ⟨ql, q4, rfl, hl0, hl1, hc4, hq4, g4⟩
    have HC4 := hide hc4
    have HG4 := hide (grown_trans (unhide HG3) g4)
    have HR4 := hide (own_rd (own_beneath (unhide HO3) g4 (fun a b e1 e2 => by have := ((unhide HO3).lt a e1).1; simp at e2; omega)))
    have HSC : Hid ((if true && decide (0 ≤ ql ∧ ql ≤ 100) then scaled (plainL j) ql else []) = scaled (plainL j) ql) := by unfold Hid; rw [Bool.true_and, if_pos (by simp; omega)]
    have HSL : Hid ((scaled (plainL j) ql).length = 64) := made_len _
    clear hc4 g4 HC3 HG3 HO3
    go_wp2_with fail
    refine (specScale so 64 sc (plainL j) ql w4 (unhide HR4) true HOK (scaled (plainL j) ql) HSC).mono ?_
    rintro e w5 ⟨so5, sc, rfl, ho, g5⟩
    rw [unhide HSL] at ho
    rw [unhide HSL]
    have HC5 := hide ((unhide HC4).grown g5)
    have HO5 := hide (own_base ho (unhide HG4).size)
    have HG5 := hide (grown_trans (unhide HG4) (grown_any g5))
    clear ho g5 HC4 HG4 HR4 HSC HSL HOK
    obtain ⟨g, rfl, hg0, hg1⟩ := own_at (unhide HO5) (by omega)
    have hcap := own_cap (unhide HO5)
    generalize scaled (plainL j) ql = ys at *
    go_wp2_with fail
    refine (pick_of tb ao n cap q4 14 zs w5 (unhide HC5) (by omega) (by omega) (by omega)).mono ?_
    rintro e w7 ⟨x, q7, rfl, hx0, hx1, hc7, hq7, g7⟩
    have HC7 := hide hc7
    have HG7 := hide (grown_trans (unhide HG5) g7)
    have HO7 := hide (own_beneath (unhide HO5) g7 (fun a b e1 e2 => by have := ((unhide HO5).lt a e1).1; simp at e2; omega))
    have hg7 : g < w7.heap.size := ((unhide HO7).lt g rfl).2
    clear hc7 g7 HC5 HG5 HO5
    have HEND : Hid (∀ (w' : World) (m : Nat) (ys : List Int) (q' : Nat), q' ≤ q7 + 10 → m ≤ 65 → Rd .i64 w' (some ⟨g, 0, none⟩) m ys → Cur w' tb ao n cap zs q' → w.grownBy w' (some tb) → Drawn w tb ao n cap zs p w' (some ⟨g, 0, none⟩) m) := by
      intro w' m ys q' h1 h2 h3 h4 h5
      exact ⟨⟨ys, h3⟩, h2, fun b off e => by simp at e; omega, ⟨q', by omega, h4⟩, h5⟩
    by_cases h0 : x = 0
    · subst h0
      go_wp2_with fail
      refine (pick_of tb ao n cap q7 64 zs w7 (unhide HC7) (by omega) (by omega) (by omega)).mono ?_
      rintro e w8 ⟨y, q8, rfl, hy0, hy1, hc8, hq8, g8⟩
      obtain ⟨yn, rfl⟩ : ∃ yn : Nat, y = yn := ⟨y.toNat, by omega⟩
      have HO8 := hide (own_beneath (unhide HO7) g8 (fun a b e1 e2 => by have := ((unhide HO7).lt a e1).1; simp at e2; omega))
      have HC8 := hide hc8
      have HG8 := hide (grown_trans (unhide HG7) g8)
      have s8 := g8.size
      clear hc8 g8 HC7 HG7 HO7
      go_wp2_with fail
      refine (odd_of tb ao n cap q8 zs w8 (unhide HC8) (by omega)).mono ?_
      rintro e w9 ⟨o, q9, rfl, hc9, hq9, g9⟩
      have HO9 := hide (own_beneath (unhide HO8) g9 (fun a b e1 e2 => by have := ((unhide HO8).lt a e1).1; simp at e2; omega))
      have HC9 := hide (hc9.grown (World.grownBy_alloc w9 (.cells #[.int .i64 0, .int .i64 1023, .int .i64 1024, .int .i64 o] 3) none))
      have HG9 := hide (grown_trans (unhide HG8) g9)
      have s9 := g9.size
      have hg9 : g < w9.heap.size := by omega
      have ht9 : tb < w9.heap.size := by have := (unhide HG9).size; omega
      clear hc9 g9 HC8 HG8 HO8
      go_wp2_with fail
      refine (pick_of tb ao n cap q9 4 zs _ (unhide HC9) (by omega) (by omega) (by omega)).mono ?_
      rintro e w10 ⟨z, q10, rfl, hz0, hz1, hc10, hq10, g10⟩
      obtain ⟨zn, rfl⟩ : ∃ zn : Nat, z = zn := ⟨z.toNat, by omega⟩
      have hL := (g10.block w9.heap.size (by simp) (by simp; omega)).trans (heap_alloc_new w9 _)
      obtain ⟨u, hu⟩ : ∃ u : Int, w10.cell? ⟨w9.heap.size, zn, none⟩ = some (.int .i64 u) := by
        rw [cell_of_row w10 _ zn _ _ (0, 0) hL]
        have : zn = 0 ∨ zn = 1 ∨ zn = 2 ∨ zn = 3 := by omega
        rcases this with rfl | rfl | rfl | rfl
        · exact ⟨_, rfl⟩
        · exact ⟨_, rfl⟩
        · exact ⟨_, rfl⟩
        · exact ⟨_, rfl⟩
      have ho10 := own_beneath ((unhide HO9).alloc _) g10 (fun a b e1 e2 => by have := ((unhide HO9).lt a e1).1; simp at e2; omega)
      have hold : ∃ v, w10.cell? ⟨g, yn, none⟩ = some v := by rw [ho10.cellAt yn (by omega)]; exact ⟨_, List.getElem?_eq_getElem (by rw [ho10.1]; omega)⟩
      obtain ⟨v, hv⟩ := hold
      have hfr := ho10.frozenAt yn
      have st := ho10.stored yn (.int .i64 u)
      have HST : Hid (Drawn w tb ao n cap zs p (w10.setCell ⟨g, yn, none⟩ (.int .i64 u)) (some ⟨g, 0, none⟩) 64) := by
        rw [← List.map_set] at st
        have g11 := grown_set w10 g yn (.int .i64 u)
        refine unhide HEND _ 64 _ q10 (by omega) (by omega) (own_rd st.1) (hc10.beside g11 (fun a e => ?_)) (grown_newR (grown_trans (grown_trans (unhide HG9) (World.grownBy_alloc _ _ _)) g10) g11 (fun a e => by simp at e; omega))
        simp at e
        exact ⟨by omega, fun hn b off e2 => by have := unhide HAL hn b off e2; omega⟩
      clear hL ho10 st hc10 g10 HO9 HC9 HG9 HEND
      go_wp2
      go_ret
      exact ⟨_, _, _, rfl, unhide HST⟩
    · by_cases h1 : x = 1
      · subst h1
        have hyc : (63 : Int) ≤ (sc : Int) := by omega
        go_wp2
        go_ret
        exact ⟨_, _, _, rfl, unhide HEND _ 63 _ q7 (by omega) (by omega) (rd_take (own_rd (unhide HO7)) 63 (by omega)) (unhide HC7) (unhide HG7)⟩
      · go_wp2
        go_ret
        exact ⟨_, _, _, rfl, unhide HEND _ 64 _ q7 (by omega) (by omega) (own_rd (unhide HO7)) (unhide HC7) (unhide HG7)⟩

theorem drawQuantize (ao : Option Addr) (n cap : Nat) (cs : List Int) (w : World) (hr : Rd .u8 w ao n cs) (hb : ∀ i, 0 ≤ cs.getD i 0 ∧ cs.getD i 0 ≤ 255) (hn : n ≤ 1048576) :
    Calls Try.prog 15 #[.slice ao n cap] w fun e w' => ∃ so m sc to l tc, e = .returned (.tuple #[.slice so m sc, .slice to l tc]) ∧ (∃ xs, Rd .i64 w' so m xs) ∧ (∃ ys, Rd .i64 w' to l ys) ∧ m ≤ 65 ∧ l ≤ 65 ∧ w.grownBy w' none := by
  have HR := hide hr
  have HB := hide hb
  clear hr hb
  go_enter Try.func15, Try.ntmps15
  go_wp2_with fail
  refine (open_of ao n cap cs w (unhide HR) (unhide HB) hn).mono ?_
  rintro e w1 ⟨rfl, hc, g1⟩
  go_wp2_with fail
  refine (drawAny5 w.heap.size ao n cap 0 cs w1 hc (by omega) 2000 (by omega)).mono ?_
  rintro e w2 ⟨so, m, sc, rfl, hd⟩
  obtain ⟨q, hq, hc2⟩ := hd.cur
  go_wp2_with fail
  refine (drawTable w.heap.size ao n cap q cs w2 hc2 (by omega)).mono ?_
  rintro e w3 ⟨to, l, tc, rfl, hd3⟩
  obtain ⟨xs, hx⟩ := hd.rd
  have hx3 : Rd .i64 w3 so m xs := hx.beside hd3.grown (fun _ b off e => by have := hd.new b off e; have := g1.size; have := hc.lt; omega)
  have G : w.grownBy w3 none := grown_new g1 (grown_trans hd.grown hd3.grown) (fun g e => by simp at e; omega)
  go_wp2
  go_ret2
  exact ⟨_, _, _, _, _, _, rfl, ⟨xs, hx3⟩, hd3.rd, hd.len, hd3.len, G⟩

end Go.Proofs.Ytoeehfjbnbbijab
