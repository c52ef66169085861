/-
  The walk of the law on ReadSegs.
-/
import Derived.Test.YtcmgmffjnhdbfahDoorSegReadTop
namespace Go.Proofs.YtcmgmffjnhdbfahDoor
open Go.RowKit

theorem readFrom_bounds : ∀ (f : Nat) (zs : List Int) (k : Nat) (was : Int) (acc : List (Int × List Int)), acc.length ≤ 300 → (∀ s ∈ acc, s.2.length ≤ 20000) → (readFrom f zs k was acc).1.length ≤ 300 ∧ ∀ s ∈ (readFrom f zs k was acc).1, s.2.length ≤ 20000
  | 0, _, _, _, _, _, _ => ⟨by simp [readFrom], fun s hs => by simp [readFrom] at hs⟩
  | f + 1, zs, k, was, acc, h1, h2 => by
    rw [readFrom]
    cases hnx : nextS zs k was (decide (acc.length = 300)) with
    | fault c a => exact ⟨by simp, fun s hs => by simp at hs⟩
    | fin a =>
      dsimp only
      split
      · exact ⟨by simp, fun s hs => by simp at hs⟩
      · exact ⟨h1, h2⟩
    | seg m d nx =>
      have hb := next_bounds hnx
      have hne := of_decide_eq_false hb.2.2.2
      exact readFrom_bounds f zs nx (kindOf m) (acc ++ [(m, d)]) (by simp; omega) (fun s hs => by
        rcases List.mem_append.1 hs with h | h
        · exact h2 s h
        · rw [List.mem_singleton] at h; subst h; exact hb.2.2.1)
theorem readS_bounds (zs : List Int) : (readS zs).1.length ≤ 300 ∧ ∀ i, i < (readS zs).1.length → ((readS zs).1.getD i (0, [])).2.length ≤ 20000 := by
  have h : (readS zs).1.length ≤ 300 ∧ ∀ s ∈ (readS zs).1, s.2.length ≤ 20000 := by
    unfold readS
    split
    · exact ⟨by simp, fun s hs => by simp at hs⟩
    · split
      · exact readFrom_bounds _ _ _ _ _ (by simp) (fun s hs => by simp at hs)
      · exact ⟨by simp, fun s hs => by simp at hs⟩
  refine ⟨h.1, fun i hi => ?_⟩
  have e : (readS zs).1.getD i (0, []) = (readS zs).1[i] := by simp [hi]
  rw [e]
  exact h.2 _ (List.getElem_mem hi)
theorem pos_le (k : Int) (ln : Nat → Nat) : ∀ i, (∀ j, j < i → ln j ≤ 20000) → posK k ln i ≤ k + i * 20001 ∧ k ≤ posK k ln i
  | 0, _ => by simp [posK]
  | i + 1, h => by
    have h1 := pos_le k ln i (fun j hj => h j (by omega))
    have h2 := h i (by omega)
    rw [posK]
    omega

theorem eqFault (c a : Int) (w : World) : Calls Tryd.prog 8 #[.agg #[.int .i64 c, .int .i64 a], .agg #[.int .i64 c, .int .i64 a]] w fun e w' => e = .returned (.bool true) ∧ w.grownBy w' none := by
  have hc : (c != c) = false := by simp
  have ha : (a != a) = false := by simp
  go_enter Tryd.func8, Tryd.ntmps8
  go_wp2
  go_ret
  exact ⟨rfl, grown_alloc (grown_alloc (World.grownBy.refl _ _) _) _⟩

set_option maxRecDepth 8000 in
set_option maxHeartbeats 6400000 in
theorem lawReadSegs (ao : Option Addr) (n cap : Nat) (zs : List Int) (w : World) (hg : w.cell? ⟨0, 0, none⟩ = some (.iface 72 (.agg #[.pointer (some ⟨1, 47, none⟩)]))) (hr : Rd .u8 w ao n zs) (hby : ∀ i, 0 ≤ zs.getD i 0 ∧ zs.getD i 0 ≤ 255) :
    Calls Tryd.prog 3 #[.slice ao n cap] w fun e w' => e = .returned (.bool true) ∧ Below w.heap.size w w' := by
  by_cases hbig : n ≤ 1048576
  · have hdec : decide ((1048576 : Int) < (n : Int)) = false := decide_eq_false (by omega)
    have hn : n ≤ 4194304 := by omega
    obtain ⟨hb1, hb2⟩ := readS_bounds zs
    have HR := hide hr
    have HBY := hide hby
    have HG := hide hg
    clear hr hby hg
    generalize hss : (readS zs).1 = ss at *
    have hq := pos_le 1 (fun i => (ss.getD i (0, [])).2.length) ss.length (fun j hj => hb2 j hj)
    have hs4 : ss.length ≤ 4194304 := by omega
    have HDL : Hid (∀ i, i < ss.length → (ss.getD i (0, [])).2.length ≤ 4194304) := fun i hi => by have := hb2 i hi; omega
    have HPB : Hid (posK 1 (fun i => (ss.getD i (0, [])).2.length) ss.length ≤ 1073741824) := by unfold Hid; omega
    have hpn : decide (posK 1 (fun i => (ss.getD i (0, [])).2.length) ss.length < 0) = false := decide_eq_false (by omega)
    have hpe : (posK 1 (fun i => (ss.getD i (0, [])).2.length) ss.length != posK 1 (fun i => (ss.getD i (0, [])).2.length) ss.length) = false := by simp
    have HSS := hide hss
    have HSP : Hid (∀ (w1 : World) (a1 : Option Addr) (c1 : Nat), Rd .u8 w1 a1 n zs → n ≤ c1 → Calls Tryd.prog 4 #[.slice a1 n c1] w1 fun e w' => ∃ bo c, e = .returned (.tuple #[.slice bo ss.length c, .agg #[.int .i64 (readS zs).2.1, .int .i64 (readS zs).2.2]]) ∧ OwnS w' w1.heap.size w'.heap.size (.slice bo ss.length c) ss ∧ w1.grownBy w' none) := fun w1 a1 c1 h1 h2 => by
      have h := specReadSegs a1 n c1 zs w1 h1 (unhide HBY) hn h2; rw [unhide HSS] at h; exact h
    have HIM : Hid (∀ (w1 : World) (a1 : Option Addr) (c1 : Nat), w.grownBy w1 none → Rd .u8 w1 a1 n zs → n ≤ c1 → Calls Tryd.prog 6 #[.slice a1 n c1] w1 fun e w' => ∃ bo c, e = .returned (.tuple #[.slice bo ss.length c, .agg #[.int .i64 (readS zs).2.1, .int .i64 (readS zs).2.2]]) ∧ OwnS w' w1.heap.size w'.heap.size (.slice bo ss.length c) ss ∧ w1.grownBy w' none) := fun w1 a1 c1 h0 h1 h2 => by
      have h := implReadSegs a1 n c1 zs w1 (h0.cell (unhide HG) (by simp)) h1 (unhide HBY) hn h2; rw [unhide HSS] at h; exact h
    clear hss hq hb1 hb2
    generalize (readS zs).2.1 = fc at *
    generalize (readS zs).2.2 = fa at *
    obtain ⟨pk, hpk⟩ : ∃ pk, posK 1 (fun i => (ss.getD i (0, [])).2.length) ss.length = pk := ⟨_, rfl⟩
    rw [hpk] at hpn hpe
    have HPK := hide hpk
    have hneg : decide (1 + (n : Int) < 0) = false := decide_eq_false (by omega)
    clear hpk
    go_enter Tryd.func3, Tryd.ntmps3
    go_wp2_with fail
    refine (toByteS ao n cap zs w (unhide HR) hn).mono ?_
    rintro e w1 ⟨rfl, o1, g1⟩
    go_wp2_with fail
    refine (unhide HSP w1 _ n (own_rd o1) (Nat.le_refl _)).mono ?_
    rintro e w2 ⟨wo, wc, rfl, oW, g2⟩
    have G2 := grown_trans g1 g2
    have hz1 := g1.size
    have hz2 := g2.size
    have hA2 := heap_alloc_new w2 (.cells #[.int .i64 fc, .int .i64 fa] 25)
    have oWA := oW.alloc (Nat.le_refl _) (.cells #[.int .i64 fc, .int .i64 fa] 25)
    have GA := grown_alloc G2 (.cells #[.int .i64 fc, .int .i64 fa] 25)
    have hzA : (w2.alloc (.cells #[.int .i64 fc, .int .i64 fa] 25)).heap.size = w2.heap.size + 1 := by simp
    have HOW := hide oWA
    have HA2 := hide hA2
    have HGA := hide GA
    clear o1 g1 g2 G2 oW hA2 oWA GA
    go_wp2_with fail
    refine (toByteS ao n cap zs (w2.alloc (.cells #[.int .i64 fc, .int .i64 fa] 25)) ((unhide HR).grown (unhide HGA)) hn).mono ?_
    rintro e w3 ⟨rfl, oX, g3⟩
    rw [hzA] at oX ⊢
    have G3 := grown_trans (unhide HGA) g3
    have hz3 := g3.size
    rw [hzA] at hz3
    have oW3 := (unhide HOW).grown g3 (by rw [hzA]; omega)
    have a3 := grown_at g3 (unhide HA2)
    have hxl := (oX.lt (w2.heap.size + 1) rfl).2
    clear g3 HOW HA2 HGA
    go_wp2_with fail
    refine (unhide HIM w3 _ n G3 (own_rd oX) (Nat.le_refl _)).mono ?_
    rintro e w4 ⟨yo, yc, rfl, oY, g4⟩
    have hz4 := g4.size
    have hB4 := heap_alloc_new w4 (.cells #[.int .i64 fc, .int .i64 fa] 25)
    have gB : w3.grownBy (w4.alloc (.cells #[.int .i64 fc, .int .i64 fa] 25)) none := grown_alloc g4 _
    have oY4 := oY.alloc (Nat.le_refl _) (.cells #[.int .i64 fc, .int .i64 fa] 25)
    have oW4 := oW3.grown gB (by omega)
    have oX4 := own_grown oX gB
    have a4 := grown_at gB a3
    have G4 := grown_trans G3 gB
    have hzB : (w4.alloc (.cells #[.int .i64 fc, .int .i64 fa] 25)).heap.size = w4.heap.size + 1 := by simp
    clear g4 gB oY oW3 oX a3 G3
    go_wp2_with fail
    refine (eqSegS yo wo ss.length yc wc ss (w4.alloc (.cells #[.int .i64 fc, .int .i64 fa] 25)) oY4.rd oW4.rd hs4 (unhide HDL)).mono ?_
    rintro e w5 ⟨rfl, g5⟩
    have hz5 := g5.size
    rw [hzB] at hz5
    have oY5 := oY4.grown g5 (by rw [hzB]; omega)
    have oW5 := oW4.grown g5 (by rw [hzB]; omega)
    have oX5 := own_grown oX4 g5
    have a5 := grown_at g5 a4
    have b5 := grown_at g5 hB4
    have G5 := grown_trans G4 g5
    obtain ⟨p1, p2, _, _⟩ := two_of a5
    obtain ⟨q1, q2, _, _⟩ := two_of b5
    clear g5 oY4 oW4 oX4 a4 hB4 G4
    go_wp2_with fail
    refine (eqFault fc fa w5).mono ?_
    rintro e w6 ⟨rfl, g6⟩
    have hz6 := g6.size
    have oW6 := oW5.grown g6 (by omega)
    have oY6 := oY5.grown g6 (by omega)
    have oX6 := own_grown oX5 g6
    have a6 := grown_at g6 a5
    have b6 := grown_at g6 b5
    have G6 := grown_trans G5 g6
    clear g6 oW5 oY5 oX5 a5 b5 G5
    go_wp2_with fail
    refine (toByteS ao n cap zs w6 ((unhide HR).grown G6) hn).mono ?_
    rintro e w7 ⟨rfl, oT, g7⟩
    have hz7 := g7.size
    have oW7 := oW6.grown g7 (by omega)
    have oY7 := oY6.grown g7 (by omega)
    have oX7 := own_grown oX6 g7
    have a7 := grown_at g7 a6
    have b7 := grown_at g7 b6
    have G7 := grown_trans G6 g7
    clear g7 oW6 oY6 oX6 a6 b6 G6
    go_wp2_with fail
    refine (eqByteS _ _ _ _ _ zs w7 (own_rd oX7) (own_rd oT) hn).mono ?_
    rintro e w8 ⟨rfl, g8⟩
    clear oT
    have hz8 := g8.size
    have oW8 := oW7.grown g8 (by omega)
    have oY8 := oY7.grown g8 (by omega)
    have oX8 := own_grown oX7 g8
    have a8 := grown_at g8 a7
    have b8 := grown_at g8 b7
    have G8 := grown_trans G7 g8
    clear g8 oW7 oY7 oX7 a7 b7 G7
    go_wp2_with fail
    refine (markByteS _ n _ _ _ 1 w8 oX8 hn (by omega) (by omega)).mono ?_
    rintro e w9 ⟨rfl, _, g9⟩
    have hrow : ∀ g, (Value.slice (some ⟨w2.heap.size + 1, 0, none⟩) n n).ownBlock = some g → g = w2.heap.size + 1 := fun g e => by simp [Value.ownBlock] at e; exact e.symm
    have hz9 := g9.size
    have oW9 := oW8.same (fun g h1 h2 => g9.block g (by omega) (fun e => by have := hrow g e.symm; omega))
    have oY9 := oY8.same (fun g h1 h2 => g9.block g (by omega) (fun e => by have := hrow g e.symm; omega))
    have a9 := (g9.block w2.heap.size (by omega) (fun e => by have := hrow _ e.symm; omega)).trans a8
    have b9 := (g9.block w4.heap.size (by omega) (fun e => by have := hrow _ e.symm; omega)).trans b8
    have G9 := grown_new G8 g9 (fun g e => by have := hrow g e; omega)
    clear g9 oW8 oY8 oX8 a8 b8 G8 hrow
    go_wp2_with fail
    refine (eqSegS yo wo ss.length yc wc ss w9 oY9.rd oW9.rd hs4 (unhide HDL)).mono ?_
    rintro e w10 ⟨rfl, g10⟩
    have hz10 := g10.size
    have oW10 := oW9.grown g10 (by omega)
    have oY10 := oY9.grown g10 (by omega)
    have a10 := grown_at g10 a9
    have b10 := grown_at g10 b9
    have G10 := grown_trans G9 g10
    clear g10 oW9 oY9 a9 b9 G9
    clear p1 p2 q1 q2
    obtain ⟨p1, p2, _, _⟩ := two_of a10
    obtain ⟨q1, q2, _, _⟩ := two_of b10
    go_wp2_with fail
    refine (eqFault fc fa w10).mono ?_
    rintro e w11 ⟨rfl, g11⟩
    have hz11 := g11.size
    have oW11 := oW10.grown g11 (by omega)
    have oY11 := oY10.grown g11 (by omega)
    have a11 := grown_at g11 a10
    have G11 := grown_trans G10 g11
    clear g11 oW10 oY10 a10 G10
    clear p1 p2 q1 q2 b10
    go_wp2_with fail
    refine (markSegS yo ss.length yc _ _ ss 1 w11 oY11 hs4 (by omega) (unhide HPB) (unhide HDL)).mono ?_
    rintro e w12 ⟨rfl, oM12, k12⟩
    rw [unhide HPK]
    have hz12 := k12.size
    have oW12 := oW11.kp k12 (by omega) (.inl (by omega))
    have a12 := (k12.block w2.heap.size (by omega) (.inl (by omega))).trans a11
    have G12 := Kp.new G11 k12 (by omega)
    clear k12 oW11 oY11 a11 G11
    go_wp2_with fail
    refine (heldSegS yo ss.length yc 1 (fun i => (ss.getD i (0, [])).2.length) w12 oM12.rd hs4 (by omega) (unhide HPB) (unhide HDL)).mono ?_
    rintro e w13 ⟨rfl, g13⟩
    rw [unhide HPK]
    have hz13 := g13.size
    have oW13 := oW12.grown g13 (by omega)
    have oM13 := oM12.grown g13 (by omega)
    have a13 := grown_at g13 a12
    have G13 := grown_trans G12 g13
    clear g13 oW12 oM12 a12 G12
    go_wp2_with fail
    refine (toByteS ao n cap zs w13 ((unhide HR).grown G13) hn).mono ?_
    rintro e w14 ⟨rfl, oT, g14⟩
    have hz14 := g14.size
    have oW14 := oW13.grown g14 (by omega)
    have oM14 := oM13.grown g14 (by omega)
    have a14 := grown_at g14 a13
    have G14 := grown_trans G13 g14
    clear g14 oW13 oM13 a13 G13
    go_wp2_with fail
    refine (unhide HIM w14 _ n G14 (own_rd oT) (Nat.le_refl _)).mono ?_
    rintro e w15 ⟨zo, zc, rfl, oZ, g15'⟩
    clear oT
    have hz15' := g15'.size
    have b15 := heap_alloc_new w15 (.cells #[.int .i64 fc, .int .i64 fa] 25)
    have g15 : w14.grownBy (w15.alloc (.cells #[.int .i64 fc, .int .i64 fa] 25)) none := grown_alloc g15' _
    have oZ15 := oZ.alloc (Nat.le_refl _) (.cells #[.int .i64 fc, .int .i64 fa] 25)
    have hzC : (w15.alloc (.cells #[.int .i64 fc, .int .i64 fa] 25)).heap.size = w15.heap.size + 1 := by simp
    have hz15 := g15.size
    have oW15 := oW14.grown g15 (by omega)
    have oM15 := oM14.grown g15 (by omega)
    have a15 := grown_at g15 a14
    have G15 := grown_trans G14 g15
    clear g15 oW14 oM14 a14 G14
    rw [hzC] at hz15
    clear oZ g15'
    go_wp2_with fail
    refine (eqSegS zo wo ss.length zc wc ss (w15.alloc (.cells #[.int .i64 fc, .int .i64 fa] 25)) oZ15.rd oW15.rd hs4 (unhide HDL)).mono ?_
    rintro e w16 ⟨rfl, g16⟩
    have hz16 := g16.size
    rw [hzC] at hz16
    have a16 := grown_at g16 a15
    have b16 := grown_at g16 b15
    have oM16 := oM15.grown g16 (by rw [hzC]; omega)
    have G16 := grown_trans G15 g16
    clear g16 oW15 oZ15 a15 b15 oM15 G15
    obtain ⟨p1, p2, _, _⟩ := two_of a16
    obtain ⟨q1, q2, _, _⟩ := two_of b16
    go_wp2_with fail
    refine (eqFault fc fa w16).mono ?_
    rintro e w17 ⟨rfl, g17⟩
    have oM17 := oM16.grown g17 (by omega)
    have G17 := grown_trans G16 g17
    clear g17 oM16 G16 p1 p2 q1 q2 a16 b16
    go_wp2_with fail
    refine (heldSegS yo ss.length yc 1 (fun i => (ss.getD i (0, [])).2.length) w17 oM17.rd hs4 (by omega) (unhide HPB) (unhide HDL)).mono ?_
    rintro e w18 ⟨rfl, g18⟩
    rw [unhide HPK]
    go_wp2
    go_ret
    exact ⟨rfl, grown_below (grown_trans G17 g18)⟩
  · have hdec : decide ((1048576 : Int) < (n : Int)) = true := decide_eq_true (by omega)
    go_enter Tryd.func3, Tryd.ntmps3
    go_wp2
    go_ret
    exact ⟨rfl, Below.refl _ _⟩

end Go.Proofs.YtcmgmffjnhdbfahDoor
