/-
  The law that no code begins another one, whatever CodesOf and LensOk of the program do, if they answer as the specification.
-/
import Derived.Test.YtcbaiagkdphkeaaCodesDraw
import Derived.Test.YtcbaiagkdphkeaaCodesSpec
namespace Go.Proofs.Ytcbaiagkdphkeaa
open Go.RowKit

def ImplCodes : Prop := ∀ (ao : Option Addr) (n cap : Nat) (xs : List Int) (w : World), Rd .i64 w ao n xs → n ≤ 1048576 →
  Calls Try.prog 11 #[.slice ao n cap] w fun e w' => ∃ v, e = .returned v ∧ w'.ownsRow w.heap.size 30 2 v (codesG xs).length (flat (codesG xs)) ∧ w.grownBy w' none
def ImplLens : Prop := ∀ (ao : Option Addr) (n cap : Nat) (xs : List Int) (w : World), Rd .i64 w ao n xs → n ≤ 1048576 → ∀ b, Hid (lensB xs = b) →
  Calls Try.prog 13 #[.slice ao n cap] w fun e w' => e = .returned (.bool b) ∧ w.grownBy w' none

theorem lawBig8 (ao : Option Addr) (n cap : Nat) (b : Bool) (w : World) (hb : Hid (decide (1048576 < n) = b)) :
    Calls Try.prog 9 #[.slice ao n cap] w fun e w' => e = .returned (.bool b) ∧ w = w' := by
  have h : decide ((1048576 : Int) < (n : Int)) = b := by rw [← unhide hb]; by_cases h : 1048576 < n <;> simp <;> omega
  go_enter Try.func9, Try.ntmps9
  go_wp2
  go_ret
  exact ⟨rfl, rfl⟩

theorem two_new (w : World) (a b c d : Value) (t : TypeId) : ((w.alloc (.cells #[a, b] t)).alloc (.cells #[c, d] t)).cell? ⟨w.heap.size, 0, none⟩ = some a ∧ ((w.alloc (.cells #[a, b] t)).alloc (.cells #[c, d] t)).cell? ⟨w.heap.size, 1, none⟩ = some b ∧
    ((w.alloc (.cells #[a, b] t)).alloc (.cells #[c, d] t)).cell? ⟨w.heap.size + 1, 0, none⟩ = some c ∧ ((w.alloc (.cells #[a, b] t)).alloc (.cells #[c, d] t)).cell? ⟨w.heap.size + 1, 1, none⟩ = some d := by
  have h1 : ((w.alloc (.cells #[a, b] t)).alloc (.cells #[c, d] t)).heap[w.heap.size]? = some (.cells #[a, b] t (0, 0)) := (Below.heap_alloc _ _ _ (by simp)).trans (heap_alloc_new w _)
  have h2 : ((w.alloc (.cells #[a, b] t)).alloc (.cells #[c, d] t)).heap[w.heap.size + 1]? = some (.cells #[c, d] t (0, 0)) := by
    have h := heap_alloc_new (w.alloc (.cells #[a, b] t)) (.cells #[c, d] t)
    simpa using h
  exact ⟨by rw [cell_of_row _ _ 0 _ _ (0, 0) h1]; rfl, by rw [cell_of_row _ _ 1 _ _ (0, 0) h1]; rfl, by rw [cell_of_row _ _ 0 _ _ (0, 0) h2]; rfl, by rw [cell_of_row _ _ 1 _ _ (0, 0) h2]; rfl⟩

theorem code_range {X : List Int} (h : lensB X = true) {s : Nat} (hs : s < X.length) : 0 ≤ (codeG X s).1 ∧ (codeG X s).1 ≤ 16 ∧ 0 ≤ (codeG X s).2 ∧ (codeG X s).2 < 65536 := by
  have h1 := (lens_parts h).2.1 s hs
  have h2 := code_fits h hs
  rw [code_len] at *
  refine ⟨h1.1, h1.2, h2.1, ?_⟩
  have h3 : (X.getD s 0).toNat ≤ 16 := by omega
  have h4 : (2 : Int) ^ (X.getD s 0).toNat ≤ 2 ^ 16 := by
    have := Nat.pow_le_pow_right (n := 2) (by omega) h3
    exact_mod_cast this
  have h5 : (2 : Int) ^ 16 = 65536 := by decide
  omega

set_option maxRecDepth 20000 in
set_option maxHeartbeats 3200000 in
theorem lawPrefix_in (HI : ImplCodes) (HJ : ImplLens) (ao : Option Addr) (n cap : Nat) (zs : List Int) (w : World) (hr : Rd .u8 w ao n zs) (hb : ∀ i, 0 ≤ zs.getD i 0 ∧ zs.getD i 0 ≤ 255) (hn : n ≤ 1048576) :
    Calls Try.prog 3 #[.slice ao n cap] w fun e w' => e = .returned (.bool true) ∧ Below w.heap.size w w' := by
  have HR := hide hr
  have HB := hide hb
  have HII := hide HI
  have HJJ := hide HJ
  clear hr hb HI HJ
  go_enter Try.func3, Try.ntmps3
  go_wp2_with fail
  refine (lawBig8 ao n cap false w (by unfold Hid; simp; omega)).mono ?_
  rintro e w0 ⟨rfl, rfl⟩
  go_wp2_with fail
  refine (drawCodesOf ao n cap zs w (unhide HR) (unhide HB) hn).mono ?_
  rintro e w1 ⟨so, m, sc, X, rfl, hm1, hm2, r1, g1⟩
  obtain ⟨C, HC⟩ : ∃ C, Hid (codesG X = C) := ⟨_, rfl⟩
  obtain ⟨b, HLB⟩ : ∃ b, Hid (lensB X = b) := ⟨_, rfl⟩
  have HR1 := hide r1
  have G1 := hide g1
  clear r1 g1
  go_wp2_with fail
  refine (unhide HII so m sc X w1 (unhide HR1) (by omega)).mono ?_
  rw [unhide HC]
  rintro e w2 ⟨v2, rfl, o2, g2⟩
  obtain ⟨co, cc, rfl⟩ := own_form o2
  have HC2 : Hid (RdF w2 co C.length C) := own_rdF o2
  have HR2 := hide ((unhide HR1).grown g2)
  have G2 := hide (grown_trans (unhide G1) g2)
  clear o2 g2 HR1 G1
  go_wp2_with fail
  refine (specCodesOf so m sc X w2 (unhide HR2)).mono ?_
  rw [unhide HC]
  rintro e w3 ⟨v3, rfl, o3, g3⟩
  obtain ⟨eo, ec, rfl⟩ := own_form o3
  have HE3 : Hid (RdF w3 eo C.length C) := own_rdF o3
  have HC3 := hide ((unhide HC2).grown g3)
  have HR3 := hide ((unhide HR2).grown g3)
  have G3 := hide (grown_trans (unhide G2) g3)
  clear o3 g3 HR2 G2 HC2
  go_wp2_with fail
  refine (unhide HJJ so m sc X w3 (unhide HR3) (by omega) b HLB).mono ?_
  rintro e w4 ⟨rfl, g4⟩
  have HE4 := hide ((unhide HE3).grown g4)
  have HC4 := hide ((unhide HC3).grown g4)
  have HR4 := hide ((unhide HR3).grown g4)
  have G4 := hide (grown_trans (unhide G3) g4)
  clear g4 HR3 G3 HC3 HE3
  go_wp2_with fail
  refine (specLensOk so m sc X w4 (unhide HR4) b HLB).mono ?_
  rintro e w5 ⟨rfl, rfl⟩
  have hbb : (b == b) = true := by cases b <;> rfl
  have HX := hide (unhide HR4).1
  have HCT : Hid (0 < C.length → lensB X = true ∧ C.length = m ∧ ∀ i, i < m → C.getD i (0, 0) = codeG X i) := fun h => by
    have hx := unhide HX
    cases hB : lensB X with
    | false => rw [← unhide HC, codesG, hB] at h; simp at h
    | true => exact ⟨rfl, by rw [← unhide HC, codes_len hB, hx], fun i hi => by rw [← unhide HC]; exact codes_at hB i (by omega)⟩
  have hCl : C.length ≤ 257 := by
    by_cases h : 0 < C.length
    · rw [(unhide HCT h).2.1]; exact hm2
    · omega
  clear HLB
  go_wp2
  go_loopw [6] (fun i wr => ∃ k : Nat, k ≤ C.length ∧ i = .int .i64 k ∧ Hid (w5.grownBy wr none)) (fun i _ => C.length - (intOf i).toNat)
  case atStart => exact ⟨0, Nat.zero_le _, rfl, World.grownBy.refl _ _⟩
  case round =>
    obtain ⟨i, hi, rfl, hg⟩ := hrel
    obtain ⟨wo, rfl⟩ : ∃ wo, wo = wr := ⟨wr, rfl⟩
    by_cases hil : i < C.length
    · obtain ⟨hB, hCm, hCa⟩ := unhide HCT (by omega)
      have him : i < m := by omega
      have HCM := hide hCm
      have HCA := hide hCa
      have hilI : (i : Int) < (C.length : Int) := by omega
      have himI : (i : Int) < (m : Int) := by omega
      have e5 := i64_in ((i : Int) + 1) (by omega)
      obtain ⟨cb, cf, rfl, k0, k1⟩ := ((unhide HC4).grown (unhide hg)).2 i hil
      obtain ⟨eb, ef, rfl, n0, n1⟩ := ((unhide HE4).grown (unhide hg)).2 i hil
      obtain ⟨lb, lf, rfl, l0⟩ := ((unhide HR4).grown (unhide hg)).2 i him
      have hlen := code_len X i
      rw [hCa i him] at k0 k1 n0 n1
      clear hCm hCa
      have HPRE : Hid (∀ k, k < m → i ≠ k → (codeG X i).1 ≠ 0 → ∀ d : Nat, (codeG X k).1 = (codeG X i).1 + (d : Int) → (codeG X k).2 / 2 ^ d ≠ (codeG X i).2) := fun k hk hne h0 d hd => by
        have hx := unhide HX
        rw [code_len, code_len] at hd
        rw [code_len] at h0
        exact code_prefix hB (by omega) (by omega) hne h0 d hd
      have hbi := code_range hB (s := i) (by have := unhide HX; omega)
      generalize codeG X i = cd at *
      obtain ⟨u, v⟩ := cd
      dsimp only at k0 k1 n0 n1 hlen hbi
      rw [← hlen] at l0
      clear hlen
      go_wp2
      go_quiet (fail)
      go_wp2
      go_loopw [7] (fun k wv => ∃ j : Nat, j ≤ C.length ∧ k = .int .i64 j ∧ Hid (wo.grownBy wv none)) (fun k _ => C.length - (intOf k).toNat)
      case atStart => exact ⟨0, Nat.zero_le _, rfl, grown_drewN (World.grownBy.refl _ _) _⟩
      case round =>
        obtain ⟨j, hj, rfl, hgv⟩ := hrel
        by_cases hjl : j < C.length
        · have hjm : j < m := by have := unhide HCM; omega
          have hjlI : (j : Int) < (C.length : Int) := by omega
          have e6 := i64_in ((j : Int) + 1) (by omega)
          have K0 := (unhide hgv).cell k0 (by simp)
          have K1 := (unhide hgv).cell k1 (by simp)
          obtain ⟨cb', cf', hco, p0, p1⟩ := ((unhide HC4).grown (grown_trans (unhide hg) (unhide hgv))).2 j hjl
          simp only [Option.some.injEq, Addr.mk.injEq, and_true] at hco
          obtain ⟨rfl, rfl⟩ := hco
          rw [unhide HCA j hjm] at p0 p1
          have hpre := unhide HPRE j hjm
          have hbu := code_range hB (s := j) (by have := unhide HX; omega)
          generalize codeG X j = ce at *
          obtain ⟨x, y⟩ := ce
          dsimp only at p0 p1 hpre hbu
          have HG2 : Hid (wo.grownBy ((wr.alloc (.cells #[.int .i64 u, .int .i64 v] 30)).alloc (.cells #[.int .i64 x, .int .i64 y] 30)) none) := grown_alloc (grown_alloc (unhide hgv) _) _
          have P0 := (World.grownBy_alloc wr (.cells #[.int .i64 u, .int .i64 v] 30) none).cell p0 (by simp)
          have P1 := (World.grownBy_alloc wr (.cells #[.int .i64 u, .int .i64 v] 30) none).cell p1 (by simp)
          have a01 := two_new wr (.int .i64 u) (.int .i64 v) (.int .i64 x) (.int .i64 y) 30
          obtain ⟨a0, a1, b0, b1⟩ := a01
          by_cases hij : i = j
          · have d1 : ((i : Int) == (j : Int)) = true := by rw [hij]; simp
            have HIJ := hide hij
            clear hij hpre
            go_wp2
            go_roundw
            case rel => exact ⟨j + 1, by omega, by go_num, HG2⟩
            case measure => simp [intOf]; omega
          · have d1 : ((i : Int) == (j : Int)) = false := beq_false_of_ne (by omega)
            by_cases hu : u = 0
            · have d2 : (u == 0) = true := by rw [hu]; rfl
              clear hu hpre
              go_wp2
              go_roundw
              case rel => exact ⟨j + 1, by omega, by go_num, HG2⟩
              case measure => simp [intOf]; omega
            · have d2 : (u == 0) = false := beq_false_of_ne hu
              by_cases hxu : x < u
              · have d3 : decide (x < u) = true := decide_eq_true hxu
                clear hpre
                go_wp2
                go_roundw
                case rel => exact ⟨j + 1, by omega, by go_num, HG2⟩
                case measure => simp [intOf]; omega
              · have d3 : decide (x < u) = false := decide_eq_false hxu
                obtain ⟨d, hd⟩ : ∃ d : Nat, x = u + (d : Int) := ⟨(x - u).toNat, by omega⟩
                have hne := hpre hij hu d hd
                subst hd
                have e7 := i64_in (u + (d : Int) - u) (by omega)
                have e8 : u + (d : Int) - u = (d : Int) := by omega
                have hcmp : (y / 2 ^ d == v) = false := beq_false_of_ne hne
                clear hpre hne
                go_wp2
                generalize (wr.alloc (.cells #[.int .i64 u, .int .i64 v] 30)).alloc (.cells #[.int .i64 (u + (d : Int)), .int .i64 y] 30) = wz at *
                go_quiet (fail)
                go_wp2
                go_roundw
                case rel => exact ⟨j + 1, by omega, by go_num, grown_drewN (unhide HG2) _⟩
                case measure => simp [intOf]; omega
        · obtain rfl : j = C.length := by omega
          have HG2 : Hid (w5.grownBy wr none) := grown_trans (unhide hg) (unhide hgv)
          go_wp2
          go_roundw
          case rel => exact ⟨i + 1, by omega, by go_num, HG2⟩
          case measure => simp [intOf]; omega
    · obtain rfl : i = C.length := by omega
      have HF := hide (grown_below (grown_trans (unhide G4) (unhide hg)))
      go_wp2
      go_ret
      exact ⟨rfl, unhide HF⟩

set_option maxRecDepth 20000 in
theorem lawPrefix (HI : ImplCodes) (HJ : ImplLens) (ao : Option Addr) (n cap : Nat) (zs : List Int) (w : World) (hr : Rd .u8 w ao n zs) (hb : ∀ i, 0 ≤ zs.getD i 0 ∧ zs.getD i 0 ≤ 255) :
    Calls Try.prog 3 #[.slice ao n cap] w fun e w' => e = .returned (.bool true) ∧ Below w.heap.size w w' := by
  by_cases hn : n ≤ 1048576
  · exact lawPrefix_in HI HJ ao n cap zs w hr hb hn
  · clear hr hb
    go_enter Try.func3, Try.ntmps3
    go_wp2_with fail
    refine (lawBig8 ao n cap true w (by unfold Hid; simp; omega)).mono ?_
    rintro e w0 ⟨rfl, rfl⟩
    go_wp2
    go_ret
    exact ⟨rfl, grown_below (World.grownBy.refl _ _)⟩

end Go.Proofs.Ytcbaiagkdphkeaa
