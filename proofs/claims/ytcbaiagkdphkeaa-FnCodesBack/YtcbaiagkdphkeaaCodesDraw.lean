/-
  What the laws of codes draw from a code: lens, freqs, both, and lens with symbols.
-/
import Derived.Test.YtcbaiagkdphkeaaLensDraw
namespace Go.Proofs.Ytcbaiagkdphkeaa
open Go.RowKit

set_option maxRecDepth 20000 in
set_option maxHeartbeats 1600000 in
theorem drawCodesOf (ao : Option Addr) (n cap : Nat) (zs : List Int) (w : World) (hr : Rd .u8 w ao n zs) (hb : ∀ i, 0 ≤ zs.getD i 0 ∧ zs.getD i 0 ≤ 255) (hn : n ≤ 1048576) :
    Calls Try.prog 10 #[.slice ao n cap] w fun e w' => ∃ (so : Option Addr) (m sc : Nat) (ys : List Int), e = .returned (.slice so m sc) ∧ 1 ≤ m ∧ m ≤ 257 ∧ Rd .i64 w' so m ys ∧ w.grownBy w' none := by
  have HLT := hide hr.lt
  have HR := hide hr
  have HB := hide hb
  clear hr hb
  go_enter Try.func10, Try.ntmps10
  go_wp2_with fail
  refine (open_of ao n cap zs w (unhide HR) (unhide HB) hn).mono ?_
  rintro e w1 ⟨rfl, c1, g1⟩
  have hs1 := g1.size
  have hc1 := c1.lt
  have HC1 : Hid (0 < n → ∀ b off, ao = some ⟨b, off, none⟩ → b < w1.heap.size) := fun h b off e => by have := unhide HLT h b off e; omega
  have G1 := hide g1
  have C1 := hide c1
  clear c1 g1
  go_wp2_with fail
  refine (drawLens w.heap.size ao n cap 0 zs w1 (unhide C1) (by omega) (unhide HC1)).mono ?_
  rintro e w2 ⟨v, Y, q, rfl, hY1, hY2, hq, d2⟩
  obtain ⟨so, sc, rfl⟩ := own_form d2.own
  have HF := hide (And.intro (own_rd d2.own) (grown_new (unhide G1) d2.grown (fun g e => by simp at e; omega) : w.grownBy w2 none))
  clear d2
  go_wp2
  go_ret
  exact ⟨so, Y.length, sc, Y, rfl, hY1, hY2, (unhide HF).1, (unhide HF).2⟩

set_option maxRecDepth 20000 in
set_option maxHeartbeats 1600000 in
theorem drawBestLens (ao : Option Addr) (n cap : Nat) (zs : List Int) (w : World) (hr : Rd .u8 w ao n zs) (hb : ∀ i, 0 ≤ zs.getD i 0 ∧ zs.getD i 0 ≤ 255) (hn : n ≤ 1048576) :
    Calls Try.prog 15 #[.slice ao n cap] w fun e w' => ∃ (so : Option Addr) (m sc : Nat) (ys : List Int), e = .returned (.slice so m sc) ∧ 1 ≤ m ∧ m ≤ 257 ∧ Rd .i64 w' so m ys ∧ w.grownBy w' none := by
  have HLT := hide hr.lt
  have HR := hide hr
  have HB := hide hb
  clear hr hb
  go_enter Try.func15, Try.ntmps15
  go_wp2_with fail
  refine (open_of ao n cap zs w (unhide HR) (unhide HB) hn).mono ?_
  rintro e w1 ⟨rfl, c1, g1⟩
  have hs1 := g1.size
  have hc1 := c1.lt
  have HC1 : Hid (0 < n → ∀ b off, ao = some ⟨b, off, none⟩ → b < w1.heap.size) := fun h b off e => by have := unhide HLT h b off e; omega
  have G1 := hide g1
  have C1 := hide c1
  clear c1 g1
  go_wp2_with fail
  refine (drawFreqs w.heap.size ao n cap 0 zs w1 (unhide C1) (by omega) (unhide HC1)).mono ?_
  rintro e w2 ⟨v, Y, q, rfl, hY1, hY2, hq, d2⟩
  obtain ⟨so, sc, rfl⟩ := own_form d2.own
  have HF := hide (And.intro (own_rd d2.own) (grown_new (unhide G1) d2.grown (fun g e => by simp at e; omega) : w.grownBy w2 none))
  clear d2
  go_wp2
  go_ret
  exact ⟨so, Y.length, sc, Y, rfl, hY1, hY2, (unhide HF).1, (unhide HF).2⟩

set_option maxRecDepth 20000 in
set_option maxHeartbeats 1600000 in
theorem drawCodeText (ao : Option Addr) (n cap : Nat) (zs : List Int) (w : World) (hr : Rd .u8 w ao n zs) (hb : ∀ i, 0 ≤ zs.getD i 0 ∧ zs.getD i 0 ≤ 255) (hn : n ≤ 1048576) :
    Calls Try.prog 23 #[.slice ao n cap] w fun e w' => ∃ (so : Option Addr) (m sc : Nat) (ys : List Int) (to : Option Addr) (k tc : Nat) (ss : List Int), e = .returned (.tuple #[.slice so m sc, .slice to k tc]) ∧ 1 ≤ m ∧ m ≤ 257 ∧ k ≤ 31 ∧ Rd .i64 w' so m ys ∧ Rd .i64 w' to k ss ∧ w.grownBy w' none := by
  have HLT := hide hr.lt
  have HR := hide hr
  have HB := hide hb
  clear hr hb
  go_enter Try.func23, Try.ntmps23
  go_wp2_with fail
  refine (open_of ao n cap zs w (unhide HR) (unhide HB) hn).mono ?_
  rintro e w1 ⟨rfl, c1, g1⟩
  have hs1 := g1.size
  have hc1 := c1.lt
  have HC1 : Hid (0 < n → ∀ b off, ao = some ⟨b, off, none⟩ → b < w1.heap.size) := fun h b off e => by have := unhide HLT h b off e; omega
  have G1 := hide g1
  have C1 := hide c1
  clear c1 g1
  go_wp2_with fail
  refine (drawLens w.heap.size ao n cap 0 zs w1 (unhide C1) (by omega) (unhide HC1)).mono ?_
  rintro e w2 ⟨v, Y, q, rfl, hY1, hY2, hq, d2⟩
  obtain ⟨so, sc, rfl⟩ := own_form d2.own
  have hs2 := d2.grown.size
  have HR2 : Hid (Rd .i64 w2 so Y.length Y) := own_rd d2.own
  have HN2 : Hid (0 < Y.length → ∀ b off, so = some ⟨b, off, none⟩ → b ≠ w.heap.size) := fun _ b off e => by
    subst e
    have := (d2.own.lt b rfl).1
    omega
  have G2 := hide (grown_new (unhide G1) d2.grown (fun g e => by simp at e; omega) : w.grownBy w2 none)
  have HC2 : Hid (0 < n → ∀ b off, ao = some ⟨b, off, none⟩ → b < w2.heap.size) := fun h b off e => by have := unhide HLT h b off e; omega
  have C2 := hide d2.cur
  clear d2 C1
  go_wp2_with fail
  refine (drawSymbols w.heap.size ao n cap q zs so Y.length sc Y w2 (unhide C2) (by omega) (unhide HC2) (unhide HR2) (unhide HN2) (by omega)).mono ?_
  rintro e w3 ⟨v3, S, q3, rfl, hS, hq3, d3⟩
  obtain ⟨to, tc, rfl⟩ := own_form d3.own
  have ht2 := (unhide C2).lt
  have HR3 : Hid (Rd .i64 w3 so Y.length Y) := (unhide HR2).beside d3.grown (unhide HN2)
  have HD3 := hide d3
  clear d3 C2
  go_wp2_with fail
  refine (once_of w.heap.size ao n cap q3 12 zs w3 (unhide HD3).cur (by omega) (by omega) (by omega)).mono ?_
  rintro e w4 ⟨t, q4, rfl, c4, hq4, g4⟩
  have HD4 := hide ((unhide HD3).pick ht2 c4 g4)
  have HR4 : Hid (Rd .i64 w4 so Y.length Y) := (unhide HR3).beside g4 (unhide HN2)
  clear c4 g4 HD3 HR3
  cases t with
  | false =>
    have HF := hide (And.intro (own_rd (unhide HD4).own) (grown_new (unhide G2) (unhide HD4).grown (fun g e => by simp at e; omega) : w.grownBy w4 none))
    go_wp2
    go_ret2
    exact ⟨so, Y.length, sc, Y, to, S.length, tc, S, rfl, hY1, hY2, by omega, unhide HR4, (unhide HF).1, (unhide HF).2⟩
  | true =>
    go_wp2_with fail
    refine (odd_of w.heap.size ao n cap q4 zs w4 (unhide HD4).cur (by omega)).mono ?_
    rintro e w5 ⟨y, q5, rfl, c5, hq5, g5⟩
    have HD5 := hide ((unhide HD4).pick ht2 c5 g5)
    clear c5 g5 HD4 HR4
    obtain ⟨R, HR⟩ : ∃ R, Hid (S ++ [y] = R) := ⟨_, rfl⟩
    have HRL : Hid (R.length = S.length + 1) := by unfold Hid; rw [← unhide HR, List.length_append]; rfl
    go_wp2_with (at_builtin; refine append_dw rfl _ _ rfl w2 w.heap.size ao n cap zs q5 (.slice to S.length tc) S rfl (unhide HD5) y rfl (by omega) ht2 (unhide HC2) R (unhide HR) ?_)
    intro v6 w6 d6
    obtain ⟨to6, tc6, rfl⟩ := own_form d6.own
    have HF := hide (And.intro ((unhide HR2).beside d6.grown (unhide HN2)) (And.intro (own_rd d6.own) (grown_new (unhide G2) d6.grown (fun g e => by simp at e; omega) : w.grownBy w6 none)))
    clear d6 HD5
    go_wp2
    go_ret2
    exact ⟨so, Y.length, sc, Y, to6, R.length, tc6, R, rfl, hY1, hY2, by have := unhide HRL; omega, (unhide HF).1, (unhide HF).2.1, (unhide HF).2.2⟩

end Go.Proofs.Ytcbaiagkdphkeaa
