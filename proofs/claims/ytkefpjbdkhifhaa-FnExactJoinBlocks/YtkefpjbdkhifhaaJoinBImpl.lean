/-
  JoinBlocks in the program (written by gen_join.py).
-/
import Derived.Test.YtkefpjbdkhifhaaToneTile2
import Derived.Test.YtkefpjbdkhifhaaJoinBSpec
namespace Go.Proofs.Ytkefpjbdkhifhaa
open Go.RowKit

/-- A plane with the first k blocks in their places. -/
def Joined (B : List (List Int)) (M : List Int) (bw wN hN k : Nat) : Prop := M.length = wN * hN ∧ ∀ y x, y < hN → x < wN → M.getD (y * wN + x) 0 = if y / 8 * bw + x / 8 < k then (B.getD (y / 8 * bw + x / 8) []).getD (y % 8 * 8 + x % 8) 0 else 0
theorem Joined.none (B : List (List Int)) (bw wN hN : Nat) : Joined B (List.replicate (wN * hN) 0) bw wN hN 0 :=
  ⟨by simp, fun y x _ _ => by rw [if_neg (by omega), List.getD_eq_getElem?_getD, List.getElem?_replicate]; split <;> rfl⟩
theorem Joined.next {B : List (List Int)} {M M' T : List Int} {bw wN hN k : Nat} (h : Joined B M bw wN hN k) (hb : 1 ≤ bw) (hw : wN = 8 * bw) (hT : Tiled M M' T wN hN (k / bw) (k % bw) 8) (hk : B.getD k [] = T) : Joined B M' bw wN hN (k + 1) := by
  refine ⟨hT.1.trans h.1, fun y x hy hx => ?_⟩
  rw [hT.2 y x hy hx, h.2 y x hy hx]
  have h8 : y % 8 < 8 := Nat.mod_lt _ (by decide)
  have hxb : x / 8 < bw := by omega
  by_cases e : y / 8 = k / bw ∧ x / 8 = k % bw
  · have e2 : y / 8 * bw + x / 8 = k := by
      rw [e.1, e.2]
      exact Nat.div_add_mod' k bw
    rw [if_pos ⟨e.1, e.2, h8⟩, e2, if_pos (by omega), hk]
  · have e2 : y / 8 * bw + x / 8 ≠ k := fun e9 => e (by
      rw [← e9]
      refine ⟨?_, ?_⟩
      · rw [Nat.add_comm, Nat.add_mul_div_right _ _ (by omega), Nat.div_eq_of_lt hxb, Nat.zero_add]
      · rw [Nat.add_comm, Nat.add_mul_mod_self_right, Nat.mod_eq_of_lt hxb])
    rw [if_neg (fun e9 => e ⟨e9.1, e9.2.1⟩)]
    by_cases e3 : y / 8 * bw + x / 8 < k
    · rw [if_pos e3, if_pos (by omega)]
    · rw [if_neg e3, if_neg (by omega)]
theorem Joined.all {B : List (List Int)} {M : List Int} {bw bh wN hN : Nat} (h : Joined B M bw wN hN (bh * bw)) (hw : wN = 8 * bw) (hh : hN = 8 * bh) : joinL B wN hN = M := by
  rw [← gridL_self h.1]
  unfold joinL
  refine gridL_congr (fun y x hy hx => ?_)
  have e : wN / 8 = bw := by omega
  have hre := row_end (w := bw) (show y / 8 < bh by omega)
  rw [h.2 y x hy hx, e, if_pos (by omega)]
theorem joined_vals {B : List (List Int)} {wN hN : Nat} (hB : ∀ b ∈ B, levB 0 4095 b = true) : ∀ v ∈ joinL B wN hN, 0 ≤ v ∧ v ≤ 4095 := by
  intro v hv
  unfold joinL gridL at hv
  obtain ⟨i, _, rfl⟩ := List.mem_map.1 hv
  dsimp only
  generalize i / wN / 8 * (wN / 8) + i % wN / 8 = j
  generalize i / wN % 8 * 8 + i % wN % 8 = q
  by_cases hj : j < B.length
  · have e : B.getD j [] = B[j] := by simp [hj]
    have h1 := lev_at (hB _ (List.getElem_mem hj))
    rw [e]
    by_cases hq : q < 64
    · exact h1.2 q hq
    · have e2 : B[j].getD q 0 = 0 := by rw [List.getD_eq_getElem?_getD, List.getElem?_eq_none (by omega)]; rfl
      rw [e2]
      omega
  · have e : B.getD j [] = [] := by rw [List.getD_eq_getElem?_getD, List.getElem?_eq_none (by omega)]; rfl
    rw [e]
    simp

set_option maxRecDepth 20000 in
set_option maxHeartbeats 6400000 in
theorem implJoinBlocks (ao : Option Addr) (n cap : Nat) (B : List (List Int)) (w h : Int) (W : World) (hr : Rd2 W (.slice ao n cap) B) (L : List Int) (HL : Hid (joinG B w h = L)) :
    Calls Try.prog 25 #[.slice ao n cap, .int .i64 w, .int .i64 h] W fun e W' => ∃ so sc, e = .returned (.slice so L.length sc) ∧ W'.ownsRow W.heap.size 3 1 (.slice so L.length sc) L.length (L.map (Value.int .i64)) ∧ W.grownBy W' none := by
  have hnB : B.length = n := by
    obtain ⟨_, _, e, _⟩ := hr
    simp only [Value.slice.injEq] at e
    exact e.2.1.symm
  have HNB := hide hnB
  have HR := hide hr
  clear hr hnB
  obtain ⟨sb, HS⟩ : ∃ y, Hid (sidesB w h = y) := ⟨_, rfl⟩
  obtain ⟨tb, HTB⟩ : ∃ y, Hid ((decide (w.tmod 8 = 0) && decide (h.tmod 8 = 0)) = y) := ⟨_, rfl⟩
  obtain ⟨a, HA⟩ : ∃ x, Hid (IntKind.i64.wrap (w.tdiv 8) = x) := ⟨_, rfl⟩
  obtain ⟨b, HBQ⟩ : ∃ x, Hid (IntKind.i64.wrap (h.tdiv 8) = x) := ⟨_, rfl⟩
  have HB0 := hide (heap_alloc_new W (.cells #[.int .i64 w, .int .i64 h] 48))
  have HG0 := hide (World.grownBy_alloc W (.cells #[.int .i64 w, .int .i64 h] 48) none)
  go_enter Try.func25, Try.ntmps25
  go_wp2_with fail
  refine (tiled w h tb HTB _).mono ?_
  rw [unhide HA, unhide HBQ]
  rintro e w1 ⟨rfl, g1⟩
  obtain ⟨W1, hW1⟩ : ∃ W1, w1.alloc (.cells #[.int .i64 a, .int .i64 b] 48) = W1 := ⟨_, rfl⟩
  have HG1 : Hid (W.grownBy W1 none) := by rw [← hW1]; exact grown_alloc (grown_trans (unhide HG0) g1) _
  have p0 : Hid (W1.heap[W.heap.size]? = some (.cells #[.int .i64 w, .int .i64 h] 48 (0, 0))) := by rw [← hW1]; exact grown_atG (grown_alloc g1 _) (unhide HB0) (by simp)
  have p1 : Hid (W1.heap[w1.heap.size]? = some (.cells #[.int .i64 a, .int .i64 b] 48 (0, 0))) := by rw [← hW1]; exact heap_alloc_new w1 _
  have c0 : (w1.alloc (.cells #[.int .i64 a, .int .i64 b] 48)).cell? ⟨W.heap.size, 0, none⟩ = some (.int .i64 w) := by rw [hW1, cell_of_row W1 _ 0 _ _ (0, 0) (unhide p0)]; rfl
  have c1 : (w1.alloc (.cells #[.int .i64 a, .int .i64 b] 48)).cell? ⟨W.heap.size, 1, none⟩ = some (.int .i64 h) := by rw [hW1, cell_of_row W1 _ 1 _ _ (0, 0) (unhide p0)]; rfl
  have HW1 := hide hW1
  clear hW1 g1 HB0 HG0
  go_wp2_with fail
  rw [unhide HW1]
  refine (isPlane w h sb HS W1).mono ?_
  rintro e w2 ⟨rfl, g2⟩
  have HG2 := hide (grown_trans (unhide HG1) g2)
  have q0 := hide (grown_atG g2 (unhide p0) (by simp))
  have q1 := hide (grown_atG g2 (unhide p1) (by simp))
  clear HW1 c0 c1 g2 p0 p1
  generalize w1.heap.size = s1 at *
  cases sb with
  | false =>
    obtain rfl : L = [] := by rw [← unhide HL, joinG, unhide HS]; rfl
    go_wp2
    go_ret
    exact ⟨none, 0, rfl, ⟨rfl, .inl ⟨rfl, rfl⟩⟩, unhide HG2⟩
  | true =>
    obtain ⟨a1, a2, a3⟩ := sides_of (unhide HS)
    have e1 : w.tmod 8 = w % 8 := Int.tmod_eq_emod_of_nonneg (by omega)
    have e2 : h.tmod 8 = h % 8 := Int.tmod_eq_emod_of_nonneg (by omega)
    have hTB := unhide HTB
    rw [e1, e2] at hTB
    cases tb with
    | false =>
      obtain rfl : L = [] := by
        rw [← unhide HL, joinG, if_neg]
        intro e
        simp only [Bool.and_eq_true, decide_eq_true_eq, Bool.and_eq_false_iff, decide_eq_false_iff_not] at e hTB
        omega
      clear hTB e1 e2
      go_wp2
      go_ret
      exact ⟨none, 0, rfl, ⟨rfl, .inl ⟨rfl, rfl⟩⟩, unhide HG2⟩
    | true =>
      simp only [Bool.and_eq_true, decide_eq_true_eq] at hTB
      obtain ⟨bw, bh, E1, E2, b1, b2, E3⟩ := join_sides (unhide HS) hTB.1 hTB.2
      have ea : a = (bw : Int) := by rw [← unhide HA, Int.tdiv_eq_ediv_of_nonneg (by omega), i64_in _ (by omega)]; omega
      have eb : b = (bh : Int) := by rw [← unhide HBQ, Int.tdiv_eq_ediv_of_nonneg (by omega), i64_in _ (by omega)]; omega
      subst ea
      subst eb
      obtain ⟨wN, HWN⟩ : ∃ k : Nat, Hid (8 * bw = k) := ⟨_, rfl⟩
      obtain ⟨hN, HHN⟩ : ∃ k : Nat, Hid (8 * bh = k) := ⟨_, rfl⟩
      rw [unhide HWN] at E1
      rw [unhide HHN] at E2
      subst E1
      subst E2
      have D1 := hide hTB.1
      have D2 := hide hTB.2
      obtain ⟨nb, HNN⟩ : ∃ k : Nat, Hid (bh * bw = k) := ⟨_, rfl⟩
      have hnb : nb ≤ 16384 := by rw [← unhide HNN]; exact Nat.mul_le_mul b2.2 b1.2
      have hnb1 : 1 ≤ nb := by rw [← unhide HNN]; exact Nat.mul_le_mul b2.1 b1.1
      have HE3 : Hid ((wN : Int) * (hN : Int) / 64 = (nb : Int)) := by unfold Hid; rw [E3, unhide HNN]
      have HSM : Hid (wN * hN ≤ 131072) := by rw [← Int.natCast_mul] at a3; unfold Hid; omega
      have j0 : w2.cell? ⟨s1, 0, none⟩ = some (.int .i64 (bw : Int)) := by rw [cell_of_row w2 _ 0 _ _ (0, 0) (unhide q1)]; rfl
      have j1 : w2.cell? ⟨s1, 1, none⟩ = some (.int .i64 (bh : Int)) := by rw [cell_of_row w2 _ 1 _ _ (0, 0) (unhide q1)]; rfl
      clear hTB e1 e2 E3 a3 HA HBQ HTB
      go_wp2_with fail
      refine (areaCount (bw : Int) (bh : Int) (by omega) (by omega) w2).mono ?_
      rintro e w3 ⟨rfl, g3⟩
      obtain ⟨qq, HQQ⟩ : ∃ x : Int, Hid ((bw : Int) * (bh : Int) = x) := ⟨_, rfl⟩
      have HQN : Hid ((nb : Int) = qq) := by unfold Hid; rw [← unhide HQQ, ← unhide HNN, Nat.mul_comm]; push_cast; rfl
      rw [unhide HQQ]
      have HG3 := hide (grown_trans (unhide HG2) g3)
      have r0 := hide (grown_atG g3 (unhide q0) (by simp))
      have r1 := hide (grown_atG g3 (unhide q1) (by simp))
      clear g3 j0 j1 q0 q1 HG2
      by_cases hl : ¬ n = nb
      · obtain rfl : L = [] := by
          rw [← unhide HL, joinG, unhide HE3, unhide HNB, decide_eq_false (by omega : ¬ (n : Int) = (nb : Int))]
          simp
        have d3 : ((n : Int) != qq) = true := by have := unhide HQN; simp; omega
        clear hl
        go_wp2
        go_ret
        exact ⟨none, 0, rfl, ⟨rfl, .inl ⟨rfl, rfl⟩⟩, unhide HG3⟩
      obtain rfl : nb = n := by omega
      have d3 : ((nb : Int) != qq) = false := by have := unhide HQN; simp; omega
      have HLB : Hid (joinG B (wN : Int) (hN : Int) = if B.all (levB 0 4095) then joinL B wN hN else []) := by
        unfold Hid
        rw [joinG, unhide HS, decide_eq_true (unhide D1), decide_eq_true (unhide D2), unhide HE3, unhide HNB, Int.toNat_natCast, Int.toNat_natCast, decide_eq_true (rfl : (nb : Int) = (nb : Int))]
        simp only [Bool.true_and]
      obtain ⟨bb, off, rfl⟩ : ∃ bb off, ao = some ⟨bb, off, none⟩ := by
        obtain ⟨ao', cp, e, hh⟩ := unhide HR
        obtain ⟨b, o, u, e1, _⟩ := hh 0 (by rw [unhide HNB]; omega)
        simp only [Value.slice.injEq] at e
        exact ⟨b, o, by rw [e.1, e1]⟩
      obtain ⟨m, HM⟩ : ∃ k : Nat, Hid (wN * hN = k) := ⟨_, rfl⟩
      have k0 : w3.cell? ⟨W.heap.size, 0, none⟩ = some (.int .i64 (wN : Int)) := by rw [cell_of_row w3 _ 0 _ _ (0, 0) (unhide r0)]; rfl
      have k1 : w3.cell? ⟨W.heap.size, 1, none⟩ = some (.int .i64 (hN : Int)) := by rw [cell_of_row w3 _ 1 _ _ (0, 0) (unhide r0)]; rfl
      have hwN : wN ≤ 1024 ∧ hN ≤ 1024 := by omega
      clear hl D1 D2 a1 a2
      go_wp2_with fail
      refine (newTones wN hN m hwN.1 hwN.2 HM w3).mono ?_
      rintro e w4 ⟨g, rfl, hQ4, hge4, g4⟩
      obtain ⟨W5, hW5⟩ : ∃ W5, w4.alloc (.cells #[.int .i64 (wN : Int), .int .i64 (hN : Int), .slice (some ⟨g, 0, none⟩) m m] 57) = W5 := ⟨_, rfl⟩
      have GA : w3.grownBy W5 none := by rw [← hW5]; exact grown_alloc g4 _
      have HG5 : Hid (W.grownBy W5 none) := grown_trans (unhide HG3) GA
      have HQ5 : Hid (Blk .u16 73 W5 g (List.replicate (wN * hN) 0)) := by rw [← hW5, unhide HM]; exact hQ4.grown (World.grownBy_alloc _ _ _)
      have x1 := hide (grown_atG GA (unhide r1) (by simp))
      have x5 : Hid (W5.heap[w4.heap.size]? = some (.cells #[.int .i64 (wN : Int), .int .i64 (hN : Int), .slice (some ⟨g, 0, none⟩) m m] 57 (0, 0))) := by rw [← hW5]; exact heap_alloc_new w4 _
      have HGL : Hid (g < w4.heap.size ∧ W.heap.size ≤ g ∧ s1 < w3.heap.size ∧ w3.heap.size ≤ g) := ⟨hQ4.lt, by have := (unhide HG3).size; omega, (Array.getElem?_eq_some_iff.1 (unhide r1)).1, hge4⟩
      have HW5 := hide hW5
      clear hW5 g4 hge4 hQ4 k0 k1 GA r0 r1
      obtain ⟨Z, HZ⟩ : ∃ Z, Hid (tq (List.replicate 64 0) = Z) := ⟨_, rfl⟩
      have HZS : Hid (Z.size = 64) := by unfold Hid; rw [← unhide HZ, tq_size]; rfl
      have hz : (#[.int .u16 0, .int .u16 0, .int .u16 0, .int .u16 0, .int .u16 0, .int .u16 0, .int .u16 0, .int .u16 0, .int .u16 0, .int .u16 0, .int .u16 0, .int .u16 0, .int .u16 0, .int .u16 0, .int .u16 0, .int .u16 0, .int .u16 0, .int .u16 0, .int .u16 0, .int .u16 0, .int .u16 0, .int .u16 0, .int .u16 0, .int .u16 0, .int .u16 0, .int .u16 0, .int .u16 0, .int .u16 0, .int .u16 0, .int .u16 0, .int .u16 0, .int .u16 0, .int .u16 0, .int .u16 0, .int .u16 0, .int .u16 0, .int .u16 0, .int .u16 0, .int .u16 0, .int .u16 0, .int .u16 0, .int .u16 0, .int .u16 0, .int .u16 0, .int .u16 0, .int .u16 0, .int .u16 0, .int .u16 0, .int .u16 0, .int .u16 0, .int .u16 0, .int .u16 0, .int .u16 0, .int .u16 0, .int .u16 0, .int .u16 0, .int .u16 0, .int .u16 0, .int .u16 0, .int .u16 0, .int .u16 0, .int .u16 0, .int .u16 0, .int .u16 0] : Array Value) = Z := by rw [← unhide HZ]; exact tq_z.symm
      go_wp2
      rw [unhide HW5]
      clear HW5
      generalize w4.heap.size = s5 at *
      go_loopw [41] (fun iv wr => ∃ (k : Nat) (M : List Int), k ≤ nb ∧ iv = .int .i64 k ∧ Hid (Blk .u16 73 wr g M) ∧ Hid (Joined B M bw wN hN k) ∧ Hid (∀ j, j < k → levB 0 4095 (B.getD j []) = true) ∧ Hid (W5.grownBy wr (some g))) (fun iv _ => nb - (intOf iv).toNat)
      case atStart => exact ⟨0, _, by omega, by go_num, HQ5, Joined.none _ _ _ _, fun j hj => absurd hj (by omega), World.grownBy.refl _ _⟩
      case round =>
        clear HQ5
        obtain ⟨k, M, hk, rfl, HQR, HJ, HK, HGR⟩ := hrel
        by_cases hlt : k < nb
        · have hkI : (k : Int) < (nb : Int) := by omega
          have f1 := i64_in ((k : Int) + 1) (by omega)
          obtain ⟨Bk, HBK⟩ : ∃ b, Hid (B.getD k [] = b) := ⟨_, rfl⟩
          obtain ⟨uo, uc, hc, hrk⟩ := Rd2.at (unhide HR) k (by rw [unhide HNB]; exact hlt)
          rw [unhide HBK] at hc hrk
          obtain ⟨bl, HBL⟩ : ∃ k, Hid (Bk.length = k) := ⟨_, rfl⟩
          rw [unhide HBL] at hc hrk
          have HGW : Hid (W.grownBy wr none) := grown_new (unhide HG5) (unhide HGR) (fun q e => by simp at e; have := unhide HGL; omega)
          have hcell := (unhide HGW).cell hc (by simp)
          have HRK := hide (hrk.grown (unhide HGW))
          obtain ⟨t, HT⟩ : ∃ t, Hid (levB 0 4095 Bk = t) := ⟨_, rfl⟩
          clear hc hrk
          go_wp2_with fail
          refine (fixTile uo bl uc Bk wr (unhide HRK) t HT).mono ?_
          rintro e w6 ⟨⟨T, rfl, hTl, hTB⟩, g6⟩
          have HTL := hide hTl
          have HTS : Hid ((tq T).size = 64) := by unfold Hid; rw [tq_size]; exact hTl
          have HTB := hide hTB
          have HG6 := hide g6
          have HB7 := hide (heap_alloc_new w6 (.cells Z 75))
          have HZN := hide (World.grownBy_alloc w6 (.cells Z 75) none)
          clear hTl hTB g6
          cases t with
          | false =>
            obtain rfl : L = [] := by
              rw [← unhide HL, unhide HLB, if_neg]
              intro e
              have hk' : k < B.length := by rw [unhide HNB]; exact hlt
              have := List.all_eq_true.1 e B[k] (List.getElem_mem hk')
              rw [show B[k] = Bk by rw [← unhide HBK]; simp [hk'], unhide HT] at this
              cases this
            go_wp2_with ((refine store_row rfl 75 _ _ rfl w6.heap.size rfl (tq T) rfl Z 75 (unhide HB7) (by rw [unhide HZS, unhide HTS]) (by rw [unhide HTS]; kernel_rfl) (tq_one _) ?_; intro w7 hB7 g7))
            go_ret
            exact ⟨none, 0, rfl, ⟨rfl, .inl ⟨rfl, rfl⟩⟩, grown_new (grown_trans (grown_trans (unhide HGW) (unhide HG6)) (unhide HZN)) g7 (fun q e => by simp at e; have := (unhide HGW).size; have := (unhide HG6).size; omega)⟩
          | true =>
            obtain rfl : T = Bk := unhide HTB (by simp)
            go_wp2_with ((refine store_row rfl 75 _ _ rfl w6.heap.size rfl (tq T) rfl Z 75 (unhide HB7) (by rw [unhide HZS, unhide HTS]) (by rw [unhide HTS]; kernel_rfl) (tq_one _) ?_; intro w7 hB7 g7))
            have G7 : Hid (wr.grownBy w7 none) := grown_new (grown_trans (unhide HG6) (unhide HZN)) g7 (fun q e => by simp at e; have := (unhide HG6).size; omega)
            have y7 := hide hB7
            clear hB7 g7 HB7 HZN HG6 hcell
            generalize w6.heap.size = s7 at *
            obtain ⟨kr, HKR⟩ : ∃ x : Nat, Hid (k / bw = x) := ⟨_, rfl⟩
            obtain ⟨kc, HKC⟩ : ∃ x : Nat, Hid (k % bw = x) := ⟨_, rfl⟩
            have hkr : kr < bh := by rw [← unhide HKR]; exact Nat.div_lt_of_lt_mul (by rw [Nat.mul_comm, unhide HNN]; exact hlt)
            have hkc : kc < bw := by rw [← unhide HKC]; exact Nat.mod_lt _ (by omega)
            have z1 : ((bw : Int) == 0) = false := beq_eq_false_iff_ne.2 (by omega)
            have z2 : ((bw : Int) == -1) = false := beq_eq_false_iff_ne.2 (by omega)
            have z3 : ¬ bw = 0 := by omega
            have q1 : (k : Int).tdiv (bw : Int) = (kr : Int) := by
              rw [Int.tdiv_eq_ediv_of_nonneg (by omega)]
              have := unhide HKR
              exact_mod_cast this
            have q2 : (k : Int).tmod (bw : Int) = (kc : Int) := by
              rw [Int.tmod_eq_emod_of_nonneg (by omega)]
              have := unhide HKC
              exact_mod_cast this
            have q3 := i64_in (kr : Int) (by omega)
            have q4 := i64_in (kc : Int) (by omega)
            have HK' : Hid (∀ j, j < k + 1 → levB 0 4095 (B.getD j []) = true) := fun j hj => by
              by_cases e : j = k
              · subst e; rw [unhide HBK]; exact unhide HT
              · exact unhide HK j (by omega)
            have y1 := hide (grown_atG (unhide G7) (grown_atG (unhide HGR) (unhide x1) (by have := unhide HGL; simp; omega)) (by simp))
            have y5 := hide (grown_atG (unhide G7) (grown_atG (unhide HGR) (unhide x5) (by have := unhide HGL; simp; omega)) (by simp))
            have HQ7 := hide ((unhide HQR).grown (unhide G7))
            go_wp2
            refine wp_region_noPanic ?_
            refine wp_region_tailL 20 (fun W => W.heap[s1]? = some (.cells #[.int .i64 (bw : Int), .int .i64 (bh : Int)] 48 (0, 0)) ∧ W.heap[s5]? = some (.cells #[.int .i64 (wN : Int), .int .i64 (hN : Int), .slice (some ⟨g, 0, none⟩) m m] 57 (0, 0)) ∧ W.heap[s7]? = some (.cells (tq T) 75 (0, 0))) [true, true, true, true, true, true, true, true, true, true, false] (by kernel_rfl) (fun _ _ _ _ _ h => h) rfl (by decide) (by kernel_rfl) ⟨unhide y1, unhide y5, unhide y7⟩ ?_
            have HQ8 : Hid (Blk .u16 73 w7.drew g M) := unhide HQ7
            have HD : Hid (w7.grownBy w7.drew none) := grown_drew (World.grownBy.refl _ _)
            generalize w7.drew = w8 at *
            refine heldF_take (v := .agg #[.int .i64 (wN : Int), .int .i64 (hN : Int), .slice (some ⟨g, 0, none⟩) m m]) (Or.inl ⟨by rfl, ?_⟩) ?_
            · intro w' hSw
              exact exec_row 57 _ rfl s5 rfl _ _ hSw.2.1 _ Try.underlying57 rfl (by kernel_rfl)
            try simp only [Act.put, List.setIfInBounds_toArray, List.set_cons_zero, List.set_cons_succ]
            refine heldF_take (v := ?_) (Or.inl ⟨by rfl, ?_⟩) ?_
            rotate_left 1
            · intro w' hSw
              go_simp
              try with_reducible rfl
            try simp only [Act.put, List.setIfInBounds_toArray, List.set_cons_zero, List.set_cons_succ]
            refine heldF_take (v := ?_) (Or.inl ⟨by rfl, ?_⟩) ?_
            rotate_left 1
            · intro w' hSw
              go_simp
              try with_reducible rfl
            try simp only [Act.put, List.setIfInBounds_toArray, List.set_cons_zero, List.set_cons_succ]
            refine heldF_take (v := ?_) (Or.inl ⟨by rfl, ?_⟩) ?_
            rotate_left 1
            · intro w' hSw
              have cb : w'.cell? ⟨s1, 0, none⟩ = some (.int .i64 (bw : Int)) := by rw [cell_of_row w' _ 0 _ _ (0, 0) hSw.1]; rfl
              go_simp
              try with_reducible rfl
            try simp only [Act.put, List.setIfInBounds_toArray, List.set_cons_zero, List.set_cons_succ]
            refine heldF_take (v := ?_) (Or.inl ⟨by rfl, ?_⟩) ?_
            rotate_left 1
            · intro w' hSw
              go_simp
              try with_reducible rfl
            try simp only [Act.put, List.setIfInBounds_toArray, List.set_cons_zero, List.set_cons_succ]
            refine heldF_take (v := ?_) (Or.inl ⟨by rfl, ?_⟩) ?_
            rotate_left 1
            · intro w' hSw
              go_simp
              try with_reducible rfl
            try simp only [Act.put, List.setIfInBounds_toArray, List.set_cons_zero, List.set_cons_succ]
            refine heldF_take (v := ?_) (Or.inl ⟨by rfl, ?_⟩) ?_
            rotate_left 1
            · intro w' hSw
              go_simp
              try with_reducible rfl
            try simp only [Act.put, List.setIfInBounds_toArray, List.set_cons_zero, List.set_cons_succ]
            refine heldF_take (v := ?_) (Or.inl ⟨by rfl, ?_⟩) ?_
            rotate_left 1
            · intro w' hSw
              have cb : w'.cell? ⟨s1, 0, none⟩ = some (.int .i64 (bw : Int)) := by rw [cell_of_row w' _ 0 _ _ (0, 0) hSw.1]; rfl
              go_simp
              try with_reducible rfl
            try simp only [Act.put, List.setIfInBounds_toArray, List.set_cons_zero, List.set_cons_succ]
            refine heldF_take (v := ?_) (Or.inl ⟨by rfl, ?_⟩) ?_
            rotate_left 1
            · intro w' hSw
              go_simp
              try with_reducible rfl
            try simp only [Act.put, List.setIfInBounds_toArray, List.set_cons_zero, List.set_cons_succ]
            refine heldF_take (v := .agg (tq T)) (Or.inl ⟨by rfl, ?_⟩) ?_
            · intro w' hSw
              exact exec_row 75 _ rfl s7 rfl _ _ hSw.2.2 _ Try.underlying75 rfl (by rw [unhide HTS]; kernel_rfl)
            try simp only [Act.put, List.setIfInBounds_toArray, List.set_cons_zero, List.set_cons_succ]
            refine heldF_skip ?_
            refine heldF_nil ?_
            refine tailL_skip ?_
            refine tailL_skip ?_
            refine tailL_skip ?_
            refine tailL_skip ?_
            refine tailL_skip ?_
            refine tailL_skip ?_
            refine tailL_skip ?_
            refine tailL_skip ?_
            refine tailL_skip ?_
            refine tailL_skip ?_
            refine tailL_step (fun K hK => ?_)
            go_simp
            refine (putTile wN hN g m kr kc M T hwN.1 hwN.2 (by have := unhide HHN; omega) (by have := unhide HWN; omega) HM w8 (unhide HQ8) (by rw [(unhide HJ).1]; exact unhide HM) (unhide HTL)).mono ?_
            rintro e w9 ⟨⟨v, rfl⟩, hP, g9⟩
            refine hK.out _ _ (.inl rfl) ?_
            clear hK K
            refine tailL_nil (NoPanic.normal ?_)
            try simp only [Act.put]
            obtain ⟨M', hM', hT'⟩ := hP
            have HQ9 := hide hM'
            have HJ9 : Hid (Joined B M' bw wN hN (k + 1)) := (unhide HJ).next (by omega) (unhide HWN).symm (by rw [unhide HKR, unhide HKC]; exact hT') (unhide HBK)
            have HG9 : Hid (W5.grownBy w9 (some g)) := grown_trans (unhide HGR) (grown_trans (grown_any (grown_trans (unhide G7) (unhide HD))) g9)
            clear hM' hT' g9 HQR HGR HJ
            go_wp2
            go_roundw
            case rel => exact ⟨k + 1, M', by omega, by go_num, HQ9, HJ9, HK', HG9⟩
            case measure => simp [intOf]; omega
        · obtain rfl : nb = k := by omega
          have hkd : decide ((nb : Int) < (nb : Int)) = false := decide_eq_false (by omega)
          have HAL : Hid (∀ x ∈ B, levB 0 4095 x = true) := fun x hx => by
            obtain ⟨i, hi, rfl⟩ := List.mem_iff_getElem.1 hx
            have := unhide HK i (by rw [← unhide HNB]; exact hi)
            rw [show B.getD i [] = B[i] by simp [hi]] at this
            exact this
          have HLG : Hid (M = L) := by
            unfold Hid
            rw [← unhide HL, unhide HLB, if_pos (List.all_eq_true.2 (unhide HAL))]
            have := unhide HJ
            rw [← unhide HNN] at this
            exact (this.all (unhide HWN).symm (unhide HHN).symm).symm
          have HLV : Hid (∀ v ∈ L, 0 ≤ v ∧ v ≤ 4095) := by
            unfold Hid
            rw [← unhide HL, unhide HLB, if_pos (List.all_eq_true.2 (unhide HAL))]
            exact joined_vals (unhide HAL)
          have HML : Hid (L.length = m) := by unfold Hid; rw [← unhide HLG, (unhide HJ).1, unhide HM]
          rw [unhide HLG] at HQR
          have y5 := grown_atG (unhide HGR) (unhide x5) (by have := unhide HGL; simp; omega)
          have k2 : wr.cell? ⟨s5, 2, none⟩ = some (.slice (some ⟨g, 0, none⟩) m m) := by rw [cell_of_row wr _ 2 _ _ (0, 0) y5]; rfl
          have HGW : Hid (W.grownBy wr none) := grown_new (unhide HG5) (unhide HGR) (fun q e => by simp at e; have := unhide HGL; omega)
          clear y5 HJ HK
          go_wp2_with fail
          refine (toneList 73 g m L wr (unhide HQR) (unhide HML) (by have := unhide HSM; have := unhide HM; omega) (unhide HLV)).mono ?_
          rintro e w8 ⟨so, sc, rfl, o8, g8⟩
          have hL := unhide HML
          rw [← hL] at o8 ⊢
          have HO8 := hide (own_base o8 (unhide HGW).size)
          have HG8 := hide (grown_trans (unhide HGW) g8)
          clear o8 g8 hL
          go_wp2
          go_ret
          exact ⟨_, _, rfl, unhide HO8, unhide HG8⟩

end Go.Proofs.Ytkefpjbdkhifhaa
