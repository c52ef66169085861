/-
  Freqs and lens that are drawn together.
-/
import Derived.Test.YtcbaiagkdphkeaaLensDraw
namespace Go.Proofs.Ytcbaiagkdphkeaa
open Go.RowKit

set_option maxRecDepth 20000 in
set_option maxHeartbeats 1600000 in
theorem drawCostOf (ao : Option Addr) (n cap : Nat) (zs : List Int) (w : World) (hr : Rd .u8 w ao n zs) (hb : ∀ i, 0 ≤ zs.getD i 0 ∧ zs.getD i 0 ≤ 255) (hn : n ≤ 1048576) :
    Calls Try.prog 22 #[.slice ao n cap] w fun e w' => ∃ (so : Option Addr) (m sc : Nat) (ys : List Int) (to : Option Addr) (k tc : Nat) (ss : List Int), e = .returned (.tuple #[.slice so m sc, .slice to k tc]) ∧ 1 ≤ m ∧ m ≤ 257 ∧ k ≤ 257 ∧ Rd .i64 w' so m ys ∧ Rd .i64 w' to k ss ∧ w.grownBy w' none := by
  have HLT := hide hr.lt
  have HR := hide hr
  have HB := hide hb
  clear hr hb
  go_enter Try.func22, Try.ntmps22
  go_wp2_with fail
  refine (open_of ao n cap zs w (unhide HR) (unhide HB) hn).mono ?_
  rintro e w1 ⟨rfl, c1, g1⟩
  have hs1 := g1.size
  have hc1 := c1.lt
  have HC1 : Hid (0 < n → ∀ b off, ao = some ⟨b, off, none⟩ → b < w1.heap.size) := fun h b off e => by have := unhide HLT h b off e; omega
  have G1 := hide g1
  have C1 := hide c1
  clear c1 g1
  go_wp2_with fail
  refine (drawFreqs w.heap.size ao n cap 0 zs w1 (unhide C1) (by omega) (unhide HC1)).mono ?_
  rintro e w2 ⟨v, Y, q, rfl, hY1, hY2, hq, d2⟩
  obtain ⟨so, sc, rfl⟩ := own_form d2.own
  have hs2 := d2.grown.size
  have HR2 : Hid (Rd .i64 w2 so Y.length Y) := own_rd d2.own
  have HN2 : Hid (0 < Y.length → ∀ b off, so = some ⟨b, off, none⟩ → b ≠ w.heap.size) := fun _ b off e => by
    subst e
    have := (d2.own.lt b rfl).1
    omega
  have G2 := hide (grown_new (unhide G1) d2.grown (fun g e => by simp at e; omega) : w.grownBy w2 none)
  have HC2 : Hid (0 < n → ∀ b off, ao = some ⟨b, off, none⟩ → b < w2.heap.size) := fun h b off e => by have := unhide HLT h b off e; omega
  have C2 := hide d2.cur
  clear d2 C1
  have ht2 := (unhide C2).lt
  go_wp2_with fail
  refine (specBestLens so Y.length sc Y w2 (unhide HR2)).mono ?_
  have hbl := bestG_le Y
  generalize bestG Y = X at hbl
  rintro e w3 ⟨v2, rfl, o3, g3⟩
  obtain ⟨bo, bc, rfl⟩ := own_form o3
  have HD3 : Hid (Dw w2 w.heap.size ao n cap zs q w3 (.slice bo X.length bc) X) := ⟨o3, (unhide C2).grown g3, grown_any g3⟩
  clear o3 g3 C2
  go_wp2_with fail
  refine (once_of w.heap.size ao n cap q 3 zs w3 (unhide HD3).cur (by omega) (by omega) (by omega)).mono ?_
  rintro e w4 ⟨t, q4, rfl, c4, hq4, g4⟩
  have HD4 := hide ((unhide HD3).pick ht2 c4 g4)
  clear c4 g4 HD3
  cases t with
  | true =>
    have hs4 := (unhide HD4).grown.size
    have HC4 : Hid (0 < n → ∀ b off, ao = some ⟨b, off, none⟩ → b < w4.heap.size) := fun h b off e => by have := unhide HC2 h b off e; omega
    go_wp2_with fail
    refine (drawLens w.heap.size ao n cap q4 zs w4 (unhide HD4).cur (by omega) (unhide HC4)).mono ?_
    rintro e w5 ⟨v5, Z, q5, rfl, hZ1, hZ2, hq5, d5⟩
    obtain ⟨zo, zc, rfl⟩ := own_form d5.own
    have HF := hide (And.intro ((unhide HR2).beside (grown_trans (unhide HD4).grown d5.grown) (unhide HN2)) (And.intro (own_rd d5.own) (grown_new (unhide G2) (grown_trans (unhide HD4).grown d5.grown) (fun g e => by simp at e; omega) : w.grownBy w5 none)))
    clear d5 HD4
    go_wp2
    go_ret2
    exact ⟨so, Y.length, sc, Y, zo, Z.length, zc, Z, rfl, hY1, hY2, hZ2, (unhide HF).1, (unhide HF).2.1, (unhide HF).2.2⟩
  | false =>
    have HEND : Hid (∀ (wv : World) (qv : Nat) (v : Value) (Z : List Int), Dw w2 w.heap.size ao n cap zs qv wv v Z → Rd .i64 wv so Y.length Y ∧ w.grownBy wv none) := fun wv qv v Z d => ⟨(unhide HR2).beside d.grown (unhide HN2), grown_new (unhide G2) d.grown (fun g e => by simp at e; omega)⟩
    by_cases hX : 0 < X.length
    · have hX0 : decide ((0 : Int) < (X.length : Int)) = true := by simp; omega
      go_wp2_with fail
      refine (once_of w.heap.size ao n cap q4 3 zs w4 (unhide HD4).cur (by omega) (by omega) (by omega)).mono ?_
      rintro e w5 ⟨t5, q5, rfl, c5, hq5, g5⟩
      have HD5 := hide ((unhide HD4).pick ht2 c5 g5)
      clear c5 g5 HD4
      cases t5 with
      | false =>
        have HF := hide (unhide HEND _ _ _ _ (unhide HD5))
        have HO := hide (own_rd (unhide HD5).own)
        go_wp2
        go_ret2
        exact ⟨so, Y.length, sc, Y, bo, X.length, bc, X, rfl, hY1, hY2, by omega, (unhide HF).1, unhide HO, (unhide HF).2⟩
      | true =>
        obtain ⟨g, rfl, _, _⟩ := own_at (unhide HD5).own hX
        go_wp2_with fail
        refine (pick_any w.heap.size ao n cap q5 X.length zs w5 (unhide HD5).cur (by omega) (by omega) (by omega)).mono ?_
        rintro e w6 ⟨y, q6, rfl, hy0, hy1, c6, hq6, g6⟩
        obtain ⟨yn, rfl⟩ := Int.eq_ofNat_of_zero_le hy0
        have HD6 := hide ((unhide HD5).pick ht2 c6 g6)
        clear c6 g6 HD5
        go_wp2_with fail
        refine (pick_of w.heap.size ao n cap q6 18 zs w6 (unhide HD6).cur (by omega) (by omega) (by omega)).mono ?_
        rintro e w7 ⟨u, q7, rfl, hu0, hu1, c7, hq7, g7⟩
        have HD7 := hide ((unhide HD6).pick ht2 c7 g7)
        clear c7 g7 HD6
        obtain ⟨⟨v, hv⟩, hfr⟩ := (unhide HD7).at' rfl (k := yn) (by omega)
        have HD8 := hide ((unhide HD7).put ht2 (unhide HC2) rfl yn u)
        have HF := hide (unhide HEND _ _ _ _ (unhide HD8))
        have HO : Hid (Rd .i64 (w7.setCell ⟨g, yn, none⟩ (.int .i64 u)) (some ⟨g, 0, none⟩) X.length (X.set yn u)) := by
          have h := (unhide HD8).own
          rw [List.length_set] at h
          exact own_rd h
        clear HD7 HD8
        go_wp2
        go_ret2
        exact ⟨so, Y.length, sc, Y, some ⟨g, 0, none⟩, X.length, bc, X.set yn u, rfl, hY1, hY2, by omega, (unhide HF).1, unhide HO, (unhide HF).2⟩
    · have hX0 : decide ((0 : Int) < (X.length : Int)) = false := decide_eq_false (by omega)
      have HF := hide (unhide HEND _ _ _ _ (unhide HD4))
      have HO := hide (own_rd (unhide HD4).own)
      have HXL : Hid (X.length ≤ 257) := by unfold Hid; omega
      go_wp2
      go_ret2
      exact ⟨so, Y.length, sc, Y, bo, X.length, bc, X, rfl, hY1, hY2, unhide HXL, (unhide HF).1, unhide HO, (unhide HF).2⟩

end Go.Proofs.Ytcbaiagkdphkeaa
