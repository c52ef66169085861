/-
  The walk of the law on what a table leaves of a wave.
-/
import Derived.Test.YtoeehfjbnbbijabTableDraw
import Derived.Test.YtoeehfjbnbbijabTabDraw2
namespace Go.Proofs.Ytoeehfjbnbbijab
open Go.RowKit

theorem div_near {n d : Int} (hd : 1 ≤ d) : 2 * (divI n d * d) - 2 * n ≤ d ∧ 2 * n - 2 * (divI n d * d) ≤ d := by
  unfold divI
  have h1 : 2 * d * ((2 * n + d) / (2 * d)) ≤ 2 * n + d := Int.mul_ediv_self_le (by omega)
  have h2 : 2 * n + d < 2 * d * ((2 * n + d) / (2 * d)) + 2 * d := Int.lt_mul_ediv_self_add (by omega)
  generalize (2 * n + d) / (2 * d) = u at *
  have e : 2 * d * u = 2 * (u * d) := by rw [Int.mul_assoc, Int.mul_comm d u]
  rw [e] at h1 h2
  omega
theorem quant_near {n d : Int} (hd : 1 ≤ d) : 2 * (quantI n d * d) - 2 * n ≤ d ∧ 2 * n - 2 * (quantI n d * d) ≤ d := by
  unfold quantI
  split
  · have h := div_near (n := -n) hd
    rw [Int.neg_mul]
    omega
  · exact div_near hd
theorem divI_in {n d : Int} (hn : 0 ≤ n ∧ n ≤ 32767) (hd : 1 ≤ d) : 0 ≤ divI n d ∧ divI n d ≤ 32767 := by
  unfold divI
  refine ⟨Int.ediv_nonneg (by omega) (by omega), ?_⟩
  have h : (2 * n + d) / (2 * d) < 32768 := Int.ediv_lt_of_lt_mul (by omega) (by omega)
  omega
theorem quant_in {n d : Int} (hn : -32767 ≤ n ∧ n ≤ 32767) (hd : 1 ≤ d) : -32767 ≤ quantI n d ∧ quantI n d ≤ 32767 := by
  unfold quantI
  split
  · have := divI_in (n := -n) (d := d) (by omega) hd; omega
  · have := divI_in (n := n) (d := d) (by omega) hd; omega
theorem dequant_near {n d : Int} (hn : -32767 ≤ n ∧ n ≤ 32767) (hd : 1 ≤ d) : 2 * (dequantI (quantI n d) d - n) ≤ d ∧ 2 * (n - dequantI (quantI n d) d) ≤ d := by
  have h := quant_near (n := n) hd
  unfold dequantI
  generalize quantI n d * d = y at *
  omega
theorem quantL_at (xs ys : List Int) (k : Nat) (hk : k < 64) : (quantL xs ys).getD k 0 = quantI (xs.getD k 0) (ys.getD k 0) := made_at _ k hk
theorem dequantL_at (xs ys : List Int) (k : Nat) (hk : k < 64) : (dequantL xs ys).getD k 0 = dequantI (xs.getD k 0) (ys.getD k 0) := made_at _ k hk
theorem nums_quant {xs ys : List Int} (h : numsB (-32767) 32767 xs = true) (hq : numsB 1 1023 ys = true) : numsB (-32767) 32767 (quantL xs ys) = true :=
  nums_all (made_len _) (fun j hj => by rw [quantL_at xs ys j hj]; exact quant_in ((nums_at h).2 j hj) ((nums_at hq).2 j hj).1)

def absQ (x : Int) : Int := if x < 0 then -x else x
theorem lawAbsQ (x : Int) (hx : -100000 ≤ x ∧ x ≤ 100000) (w : World) :
    Calls Try.prog 12 #[.int .i64 x] w fun e w' => e = .returned (.int .i64 (absQ x)) ∧ w' = w := by
  by_cases h : x < 0
  · go_enter Try.func12, Try.ntmps12
    go_wp2
    go_ret
    exact ⟨ret_int (by unfold absQ; rw [if_pos h]), rfl⟩
  · go_enter Try.func12, Try.ntmps12
    go_wp2
    go_ret
    exact ⟨ret_int (by unfold absQ; rw [if_neg (by omega)]), rfl⟩

set_option maxRecDepth 20000 in
set_option maxHeartbeats 3200000 in
theorem lawQuantized_in (ao : Option Addr) (n cap : Nat) (cs : List Int) (w : World) (hr : Rd .u8 w ao n cs) (hb : ∀ i, 0 ≤ cs.getD i 0 ∧ cs.getD i 0 ≤ 255) (hn : n ≤ 1048576) :
    Calls Try.prog 4 #[.slice ao n cap] w fun e w' => e = .returned (.bool true) ∧ Below w.heap.size w w' := by
  have HR := hide hr
  have HB := hide hb
  clear hr hb
  go_enter Try.func4, Try.ntmps4
  go_wp2_with fail
  refine (lawBig5 ao n cap false w (by unfold Hid; simp; omega)).mono ?_
  rintro e w0 ⟨rfl, rfl⟩
  go_wp2_with fail
  refine (drawQuantize ao n cap cs w (unhide HR) (unhide HB) hn).mono ?_
  rintro e w1 ⟨so, m, sc, to, l, tc, rfl, ⟨xs, hx⟩, ⟨ys, hy⟩, hm, hl, g1⟩
  obtain ⟨b, HBB⟩ : ∃ b, Hid (numsB (-32767) 32767 xs = b) := ⟨_, rfl⟩
  obtain ⟨c, HCC⟩ : ∃ c, Hid (numsB 1 1023 ys = c) := ⟨_, rfl⟩
  obtain ⟨L, HL⟩ : ∃ L, Hid ((if b && c then quantL xs ys else []) = L) := ⟨_, rfl⟩
  have hL : L.length ≤ 4194304 := by rw [← unhide HL]; split <;> simp [quantL, made]
  go_wp2_with fail
  refine (implQuantize so to m l sc tc xs ys w1 hx hy b c HBB HCC L HL).mono ?_
  rintro e w2 ⟨lo, lc, rfl, ol, g2⟩
  have X2 := hx.grown g2
  have Y2 := hy.grown g2
  have G2 := grown_trans g1 g2
  go_wp2_with fail
  refine (specQuantize so to m l sc tc xs ys w2 X2 Y2 b c HBB HCC L HL).mono ?_
  rintro e w3 ⟨ko, kc, rfl, ok, g3⟩
  have X3 := X2.grown g3
  have Y3 := Y2.grown g3
  have L3 := own_grown ol g3
  have G3 := grown_trans G2 g3
  go_wp2_with fail
  refine (sameInts lo ko L.length _ _ L w3 (own_rd L3) (own_rd ok) hL).mono ?_
  rintro e w4 ⟨rfl, g4⟩
  have X4 := X3.grown g4
  have Y4 := Y3.grown g4
  have L4 := own_rd (own_grown L3 g4)
  have G4 := grown_trans G3 g4
  clear X3 L3 G3 X2 G2 g1 g2 g3 g4 ol ok hx hy Y2 Y3
  go_wp2_with fail
  refine (specBlockOk so m sc xs w4 X4 b HBB).mono ?_
  rintro e w5 ⟨rfl, g5⟩
  have HX5 := hide (X4.grown g5)
  have HY5 := hide (Y4.grown g5)
  have HL5 := hide (L4.grown g5)
  have HG5 := hide (grown_trans G4 g5)
  clear X4 Y4 L4 G4 g5
  cases b with
  | false =>
    have e : L = [] := (unhide HL).symm
    subst e
    go_wp2
    go_ret
    exact ⟨rfl, grown_below (unhide HG5)⟩
  | true =>
    go_wp2_with fail
    refine (specTableOk to l tc ys w5 (unhide HY5) c HCC).mono ?_
    rintro e w6 ⟨rfl, g6⟩
    have HX6 := hide ((unhide HX5).grown g6)
    have HY6 := hide ((unhide HY5).grown g6)
    have HL6 := hide ((unhide HL5).grown g6)
    have HG6 := hide (grown_trans (unhide HG5) g6)
    clear g6 HX5 HY5 HL5 HG5
    cases c with
    | false =>
      have e : L = [] := (unhide HL).symm
      subst e
      go_wp2
      go_ret
      exact ⟨rfl, grown_below (unhide HG6)⟩
    | true =>
      have hm64 : m = 64 := by rw [← (unhide HX6).1]; exact (nums_at (unhide HBB)).1
      have hl64 : l = 64 := by rw [← (unhide HY6).1]; exact (nums_at (unhide HCC)).1
      subst hm64 hl64
      have e : L = quantL xs ys := (unhide HL).symm
      subst e
      have HF1 : Hid (numsB (-32767) 32767 (quantL xs ys) = true) := nums_quant (unhide HBB) (unhide HCC)
      have HF2 : Hid ((if true && true then dequantL (quantL xs ys) ys else []) = dequantL (quantL xs ys) ys) := by unfold Hid; rw [Bool.true_and, if_pos rfl]
      have HIL : Hid ((dequantL (quantL xs ys) ys).length = 64) := made_len _
      have HNR : Hid (∀ k, k < 64 → 2 * ((dequantL (quantL xs ys) ys).getD k 0 - xs.getD k 0) ≤ ys.getD k 0 ∧ 2 * (xs.getD k 0 - (dequantL (quantL xs ys) ys).getD k 0) ≤ ys.getD k 0) := fun k hk => by
        rw [dequantL_at _ _ k hk, quantL_at _ _ k hk]
        exact dequant_near ((nums_at (unhide HBB)).2 k hk) ((nums_at (unhide HCC)).2 k hk).1
      have HYB : Hid (∀ k, k < 64 → 1 ≤ ys.getD k 0 ∧ ys.getD k 0 ≤ 1023) := (nums_at (unhide HCC)).2
      clear HL hL
      go_wp2_with fail
      refine (implDequantize lo to _ 64 lc tc (quantL xs ys) ys w6 (unhide HL6) (unhide HY6) true true HF1 HCC (dequantL (quantL xs ys) ys) HF2).mono ?_
      rintro e w7 ⟨io, ic, rfl, oi, g7⟩
      have HX7 := hide ((unhide HX6).grown g7)
      have HY7 := hide ((unhide HY6).grown g7)
      have HL7 := hide ((unhide HL6).grown g7)
      have HG7 := hide (grown_trans (unhide HG6) g7)
      clear g7 HX6 HY6 HL6 HG6
      go_wp2_with fail
      refine (specDequantize lo to _ 64 lc tc (quantL xs ys) ys w7 (unhide HL7) (unhide HY7) true true HF1 HCC (dequantL (quantL xs ys) ys) HF2).mono ?_
      rintro e w8 ⟨jo, jc, rfl, oj, g8⟩
      have HX8 := hide ((unhide HX7).grown g8)
      have HY8 := hide ((unhide HY7).grown g8)
      have HI8 := hide (own_rd (own_grown oi g8))
      have HJ8 := hide (own_rd oj)
      have HG8 := hide (grown_trans (unhide HG7) g8)
      clear g8 HX7 HY7 HL7 HG7 oi oj HF1 HF2
      go_wp2_with fail
      refine (sameInts io jo (dequantL (quantL xs ys) ys).length _ _ (dequantL (quantL xs ys) ys) w8 (unhide HI8) (unhide HJ8) (by rw [unhide HIL]; omega)).mono ?_
      rintro e w9 ⟨rfl, g9⟩
      have HX9 := hide ((unhide HX8).grown g9)
      have HY9 := hide ((unhide HY8).grown g9)
      have HI9 := hide ((unhide HI8).grown g9)
      have HG9 := hide (grown_trans (unhide HG8) g9)
      clear g9 HX8 HY8 HI8 HJ8 HG8
      have hilI : ((dequantL (quantL xs ys) ys).length : Int) = 64 := by rw [unhide HIL]; rfl
      go_wp2
      go_loopw [7] (fun i wr => ∃ k : Nat, k ≤ 64 ∧ i = .int .i64 k ∧ Hid (w9.grownBy wr none)) (fun i _ => 64 - (intOf i).toNat)
      case atStart => exact ⟨0, Nat.zero_le _, rfl, World.grownBy.refl _ _⟩
      case round =>
        obtain ⟨k, hk, rfl, hgk⟩ := hrel
        by_cases hlt : k < 64
        · obtain ⟨ab, aoff, rfl, hac⟩ := (unhide HX9).2 k hlt
          obtain ⟨tb, toff, rfl, htc⟩ := (unhide HY9).2 k hlt
          obtain ⟨ib, ioff, rfl, hic⟩ := (unhide HI9).2 k (by rw [unhide HIL]; exact hlt)
          have ca := (unhide hgk).cell hac (by simp)
          have ct := (unhide hgk).cell htc (by simp)
          have ci := (unhide hgk).cell hic (by simp)
          have hnr := unhide HNR k hlt
          have hyb := unhide HYB k hlt
          clear hac htc hic
          generalize xs.getD k 0 = A at *
          generalize ys.getD k 0 = D at *
          generalize (dequantL (quantL xs ys) ys).getD k 0 = I at *
          have hx1 : -100000 ≤ I - A ∧ I - A ≤ 100000 := by omega
          have e1 : IntKind.i64.wrap (I - A) = I - A := i64_in (I - A) (by omega)
          have hq : 0 ≤ absQ (I - A) ∧ 2 * absQ (I - A) ≤ D := by unfold absQ; split <;> omega
          have e2 := i64_in (2 * absQ (I - A)) (by omega)
          have a1 : decide (D < 2 * absQ (I - A)) = false := decide_eq_false (by omega)
          have HX1 := hide hx1
          have hkI : (k : Int) < 64 := by omega
          clear hx1 hnr hyb hq
          go_wp2
          go_quiet ((first | (exact Calls.quiet_of_same (lawAbsQ (I - A) (unhide HX1) _)) | (trace_state; fail)))
          go_wp2
          go_roundw
          case rel => exact ⟨k + 1, by omega, by go_num, grown_drewN (unhide hgk) _⟩
          case measure => simp [intOf]; omega
        · obtain rfl : k = 64 := by omega
          go_wp2
          go_ret
          exact ⟨rfl, grown_below (grown_trans (unhide HG9) (unhide hgk))⟩

theorem lawQuantized (ao : Option Addr) (n cap : Nat) (cs : List Int) (w : World) (hr : Rd .u8 w ao n cs) (hb : ∀ i, 0 ≤ cs.getD i 0 ∧ cs.getD i 0 ≤ 255) :
    Calls Try.prog 4 #[.slice ao n cap] w fun e w' => e = .returned (.bool true) ∧ Below w.heap.size w w' := by
  by_cases hn : n ≤ 1048576
  · exact lawQuantized_in ao n cap cs w hr hb hn
  · go_enter Try.func4, Try.ntmps4
    go_wp2_with fail
    refine (lawBig5 ao n cap true w (by unfold Hid; simp; omega)).mono ?_
    rintro e w0 ⟨rfl, rfl⟩
    go_wp2
    go_ret
    exact ⟨rfl, Below.refl _ _⟩

end Go.Proofs.Ytoeehfjbnbbijab
