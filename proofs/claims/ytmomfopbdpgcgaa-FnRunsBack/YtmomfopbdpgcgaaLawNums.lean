/-
  The walk of the law that numbers are got back, over what the program's three functions do.
-/
import Derived.Test.YtmomfopbdpgcgaaRunSpec
import Derived.Test.YtmomfopbdpgcgaaRunDraw
namespace Go.Proofs.Ytmomfopbdpgcgaa
open Go.RowKit

/-- What the program's functions do. -/
def ImplClass : Prop := ∀ (n : Int) (w : World), Calls Try.prog 11 #[.int .i64 n] w fun e w' => e = .returned (.int .i64 (classI n)) ∧ w.grownBy w' none

def ImplBits : Prop := ∀ (n : Int) (w : World), Calls Try.prog 12 #[.int .i64 n] w fun e w' => e = .returned (.int .i64 (bitsI n)) ∧ w.grownBy w' none

def ImplNum : Prop := ∀ (s b : Int) (w : World), Calls Try.prog 15 #[.int .i64 s, .int .i64 b] w fun e w' => e = .returned (.int .i64 (numI s b)) ∧ w.grownBy w' none

theorem lawBig7 (ao : Option Addr) (n cap : Nat) (t : Bool) (w : World) (h : Hid (decide ((1048576 : Int) < (n : Int)) = t)) :
    Calls Try.prog 9 #[.slice ao n cap] w fun e w' => e = .returned (.bool t) ∧ w = w' := by
  go_enter Try.func9, Try.ntmps9
  go_wp2
  go_ret
  exact ⟨ret_bool (by rw [← unhide h]), rfl⟩

set_option maxRecDepth 20000 in
set_option maxHeartbeats 1600000 in
theorem lawNumsBack_in (HIC : Hid ImplClass) (HIB : Hid ImplBits) (HIN : Hid ImplNum) (ao : Option Addr) (n cap : Nat) (zs : List Int) (w : World) (hr : Rd .u8 w ao n zs) (hb : ∀ i, 0 ≤ zs.getD i 0 ∧ zs.getD i 0 ≤ 255) (hn : n ≤ 1048576) :
    Calls Try.prog 3 #[.slice ao n cap] w fun e w' => e = .returned (.bool true) ∧ Below w.heap.size w w' := by
  have HR := hide hr
  have HB := hide hb
  clear hr hb
  go_enter Try.func3, Try.ntmps3
  go_wp2_with fail
  refine (lawBig7 ao n cap false w (by unfold Hid; simp; omega)).mono ?_
  rintro e w0 ⟨rfl, rfl⟩
  go_wp2_with fail
  refine (drawClassOf ao n cap zs w (unhide HR) (unhide HB) hn).mono ?_
  rintro e w1 ⟨x, rfl, g1⟩
  have G1 := hide g1
  clear g1
  have hback := num_back (n := x)
  have hcb := class_bounds (n := x)
  have hbb := bits_bounds (n := x)
  have hcz := class_zero (n := x)
  have hno : coefB x = false → classI x = -1 ∧ bitsI x = -1 := fun h => ⟨by rw [classI, h]; rfl, by rw [bitsI, h]; rfl⟩
  obtain ⟨c, HC⟩ : ∃ c, Hid (classI x = c) := ⟨_, rfl⟩
  obtain ⟨v, HV⟩ : ∃ v, Hid (bitsI x = v) := ⟨_, rfl⟩
  have KC := unhide HIC x
  have KB := unhide HIB x
  have KN := unhide HIN c v
  rw [unhide HC] at KC hback hcb hcz hno
  rw [unhide HV] at KB hback hbb hno
  have hcc : (c != c) = false := by simp
  have hvv : (v != v) = false := by simp
  have KC := hide KC
  have KB := hide KB
  have KN := hide KN
  cases hx : coefB x with
  | false =>
    obtain ⟨rfl, rfl⟩ := hno hx
    clear hno hback hcb hbb hcz hx
    go_wp2_with fail
    refine (unhide KC w1).mono ?_
    rintro e w2 ⟨rfl, g2⟩
    have G2 := hide (grown_trans (unhide G1) g2)
    clear g2
    go_wp2_with fail
    refine (unhide KB w2).mono ?_
    rintro e w3 ⟨rfl, g3⟩
    have G3 := hide (grown_trans (unhide G2) g3)
    clear g3
    go_wp2_with fail
    refine (specClassOf x (-1) HC w3).mono ?_
    rintro e w4 ⟨rfl, rfl⟩
    go_wp2_with fail
    refine (specBitsOf x (-1) HV w4).mono ?_
    rintro e w5 ⟨rfl, rfl⟩
    go_wp2
    go_ret
    exact ⟨rfl, grown_below (unhide G3)⟩
  | true =>
    obtain ⟨c0, c1, c2⟩ := hcb hx
    obtain ⟨b0, b1⟩ := hbb hx
    have hnum := hback hx
    have hz := hcz hx
    rw [← c2] at b1
    obtain ⟨k, rfl⟩ := Int.eq_ofNat_of_zero_le c0
    rw [Int.toNat_natCast] at b1
    have hk : k ≤ 15 := by omega
    have hp := pow_fit hk
    obtain ⟨P, hP⟩ : ∃ P, (2 : Int) ^ k = P := ⟨_, rfl⟩
    rw [hP] at b1 hp
    have e1 := i64_in P (by omega)
    have d0 : decide ((k : Int) < 0) = false := decide_eq_false (by omega)
    have d1 : decide ((k : Int) < 16) = true := decide_eq_true (by omega)
    have d2 : decide ((0 : Int) ≤ v) = true := decide_eq_true b0
    have d3 : decide (v < P) = true := decide_eq_true b1
    rw [hnum] at KN
    have d4 : (x == 0) = ((k : Int) == 0) := by
      by_cases h0 : x = 0
      · have := hz.2 h0; rw [h0, this]
      · rw [beq_false_of_ne h0, beq_false_of_ne (fun h => h0 (hz.1 h))]
    obtain ⟨t, ht⟩ : ∃ t, ((k : Int) == 0) = t := ⟨_, rfl⟩
    rw [ht] at d4
    have HTT := hide ht
    have HD4 := hide d4
    clear hno hback hcb hbb hcz hx hz hnum c0 c1 c2 ht d4
    go_wp2_with fail
    refine (unhide KC w1).mono ?_
    rintro e w2 ⟨rfl, g2⟩
    have G2 := hide (grown_trans (unhide G1) g2)
    clear g2
    go_wp2_with fail
    refine (unhide KB w2).mono ?_
    rintro e w3 ⟨rfl, g3⟩
    have G3 := hide (grown_trans (unhide G2) g3)
    clear g3
    go_wp2_with fail
    refine (specClassOf x k HC w3).mono ?_
    rintro e w4 ⟨rfl, rfl⟩
    go_wp2_with fail
    refine (specBitsOf x v HV w4).mono ?_
    rintro e w5 ⟨rfl, rfl⟩
    go_wp2_with fail
    refine (unhide KN w5).mono ?_
    rintro e w6 ⟨rfl, g6⟩
    have G6 := hide (grown_trans (unhide G3) g6)
    clear g6
    have d5 := unhide HTT
    have d6 := unhide HD4
    cases t with
    | false =>
      go_wp2
      go_ret
      exact ⟨rfl, grown_below (unhide G6)⟩
    | true =>
      go_wp2
      go_ret
      exact ⟨rfl, grown_below (unhide G6)⟩

end Go.Proofs.Ytmomfopbdpgcgaa
