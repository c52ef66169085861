/-
  Lists of numbers that are drawn for runs, longer ones and those of noughts among them.
-/
import Derived.Test.YtmomfopbdpgcgaaRunDraw2
namespace Go.Proofs.Ytmomfopbdpgcgaa
open Go.RowKit

set_option maxRecDepth 20000 in
set_option maxHeartbeats 1600000 in
theorem drawRunsOf (ao : Option Addr) (n cap : Nat) (zs : List Int) (w : World) (hr : Rd .u8 w ao n zs) (hb : ∀ i, 0 ≤ zs.getD i 0 ∧ zs.getD i 0 ≤ 255) (hn : n ≤ 1048576) :
    Calls Try.prog 16 #[.slice ao n cap] w fun e w' => ∃ (so : Option Addr) (m sc : Nat) (ys : List Int), e = .returned (.slice so m sc) ∧ m ≤ 65 ∧ Rd .i64 w' so m ys ∧ w.grownBy w' none := by
  have HLT := hide hr.lt
  have HR := hide hr
  have HB := hide hb
  clear hr hb
  obtain ⟨i0, hi, hz0, hz1, hz2⟩ := info_parts info_bd
  go_enter Try.func16, Try.ntmps16
  go_wp2_with fail
  refine (open_of ao n cap zs w (unhide HR) (unhide HB) hn).mono ?_
  rintro e w1 ⟨rfl, c1, g1⟩
  have hs1 := g1.size
  have hc1 := c1.lt
  have HC1 : Hid (0 < n → ∀ b off, ao = some ⟨b, off, none⟩ → b < w1.heap.size) := fun h b off e => by have := unhide HLT h b off e; omega
  have G1 := hide g1
  have C1 := hide c1
  clear c1 g1
  go_wp2_with fail
  refine (drawList w.heap.size ao n cap 0 zs w1 (unhide C1) (by omega) (unhide HC1)).mono ?_
  rintro e w2 ⟨v, ys, q2, rfl, hys, o2, c2, hq2, g2⟩
  obtain ⟨so, sc, rfl⟩ := own_form o2
  have O2 := hide o2
  have C2 := hide c2
  have G2 := hide (grown_new (unhide G1) g2 (fun g e => by simp at e; omega) : w.grownBy w2 none)
  clear o2 c2 g2 C1 G1
  go_wp2_with fail
  refine (pick_of w.heap.size ao n cap q2 16 zs w2 (unhide C2) (by omega) (by omega) (by omega)).mono ?_
  rintro e w3 ⟨x, q3, rfl, hx0, hx1, c3, hq3, g3⟩
  have O3 := hide (own_beneath (unhide O2) g3 (fun a b e1 e2 => by have := ((unhide O2).lt a e1).1; simp at e2; omega))
  have C3 := hide c3
  have G3 := hide (grown_new (unhide G2) g3 (fun g e => by simp at e; omega) : w.grownBy w3 none)
  clear c3 g3 O2 C2 G2
  by_cases h0 : x = 0
  · subst h0
    go_wp2_with fail
    refine (odd_of w.heap.size ao n cap q3 zs w3 (unhide C3) (by omega)).mono ?_
    rintro e w4 ⟨y, q4, rfl, c4, hq4, g4⟩
    have O4 := hide (own_base (own_beneath (unhide O3) g4 (fun a b e1 e2 => by have := ((unhide O3).lt a e1).1; simp at e2; omega)) hs1)
    have G4 := hide (grown_new (unhide G3) g4 (fun g e => by simp at e; omega) : w.grownBy w4 none)
    clear c4 g4 O3 C3 G3
    go_wp2_with (at_builtin; refine append_intR rfl _ _ rfl w none (.slice so ys.length sc) ys.length ys rfl (unhide O4) y rfl (by omega) (unhide G4) ?_; intro v' w5 ho hg hg2)
    obtain ⟨so', sc', rfl⟩ := own_form ho
    have HF := hide (And.intro (own_rd ho) hg)
    clear ho hg hg2
    go_wp2
    go_ret
    exact ⟨_, _, _, _, rfl, by omega, (unhide HF).1, (unhide HF).2⟩
  · have hx00 : (x == 0) = false := beq_false_of_ne h0
    by_cases h1 : x = 1
    · subst h1
      go_wp2_with fail
      refine (pick_of w.heap.size ao n cap q3 2 zs w3 (unhide C3) (by omega) (by omega) (by omega)).mono ?_
      rintro e w4 ⟨y, q4, rfl, hy0, hy1, c4, hq4, g4⟩
      have G4 := hide (grown_new (unhide G3) g4 (fun g e => by simp at e; omega) : w.grownBy w4 none)
      clear c4 g4 O3 C3 G3
      obtain ⟨N, hN⟩ : ∃ N : Nat, 64 + y = (N : Int) := ⟨(64 + y).toNat, by omega⟩
      have hN2 : N ≤ 65 := by omega
      have e1 := i64_in (N : Int) (by omega)
      go_wp2_with (at_make; refine wpList_make_full _ rfl _ _ 27 rfl w4.heap.size 3 i0 (.int .i64 0) 1 Try.underlying27 hi hz0 hz1 .i64 .i64 _ _ N rfl rfl rfl rfl (by rw [hz2]; omega) (by unfold maxLen; omega) (Nat.le_refl _) ?_)
      intro w5 hown hgrow
      have HF : Hid (Rd .i64 w5 (some ⟨w4.heap.size, 0, none⟩) N (List.replicate N 0) ∧ w.grownBy w5 none) := by
        have e : (madeCells #[Value.int .i64 0] N).toList = (List.replicate N (0 : Int)).map (Value.int .i64) := by rw [toList_madeCells_one, List.map_replicate]
        rw [e] at hown
        exact ⟨own_rd hown, grown_trans (unhide G4) hgrow⟩
      clear hown hgrow
      go_wp2
      go_ret
      exact ⟨_, _, _, _, rfl, by omega, (unhide HF).1, (unhide HF).2⟩
    · have hx11 : (x == 1) = false := beq_false_of_ne h1
      have HF := hide (And.intro (own_rd (unhide O3)) (unhide G3))
      go_wp2
      go_ret
      exact ⟨_, _, _, _, rfl, by omega, (unhide HF).1, (unhide HF).2⟩

end Go.Proofs.Ytmomfopbdpgcgaa
