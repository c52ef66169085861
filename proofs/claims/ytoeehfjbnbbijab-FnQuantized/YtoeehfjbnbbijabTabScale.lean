/-
  Tables that are scaled: the program and the specification.
-/
import Derived.Test.YtoeehfjbnbbijabTabSpec
import Derived.Test.YtoeehfjbnbbijabFrameImpl
namespace Go.Proofs.Ytoeehfjbnbbijab
open Go.RowKit Go.Shelf

def scaleI (n ql : Int) : Int := min (max ((2 * (n * (100 - ql)) + 50) / 100) 1) 1023
def scaled (zs : List Int) (ql : Int) : List Int := made (fun k => scaleI (zs.getD k 0) ql)
theorem scale_mul {n ql : Int} (hn : 1 ≤ n ∧ n ≤ 1023) (hq : 0 ≤ ql ∧ ql ≤ 100) : 0 ≤ n * (100 - ql) ∧ n * (100 - ql) ≤ 102300 := by
  constructor
  · exact Int.mul_nonneg (by omega) (by omega)
  · have h1 : n * (100 - ql) ≤ 1023 * (100 - ql) := Int.mul_le_mul_of_nonneg_right hn.2 (by omega)
    omega

theorem divRound50 (n u : Int) (hn : 0 ≤ n ∧ n ≤ 200000) (hu : Hid ((2 * n + 50) / 100 = u)) (w : World) :
    Calls Try.prog 47 #[.int .i64 n, .int .i64 50] w fun e w' => e = .returned (.int .i64 u) ∧ w = w' := by
  go_enter Try.func47, Try.ntmps47
  go_wp2
  go_ret
  refine ⟨ret_int ?_, rfl⟩
  first | exact unhide hu | (rw [Int.tdiv_eq_ediv_of_nonneg (by omega)]; exact unhide hu)

theorem specFloor (n u : Int) (hn : 0 ≤ n ∧ n ≤ 1000000) (hu : Hid (n / 100 = u)) (w : World) :
    Calls Try.prog 51 #[.int .i64 n, .int .i64 100] w fun e w' => e = .returned (.int .i64 u) ∧ w = w' := by
  go_enter Try.func51, Try.ntmps51
  go_wp2
  go_ret
  refine ⟨ret_int ?_, rfl⟩
  first | exact unhide hu | (rw [Int.tdiv_eq_ediv_of_nonneg (by omega)]; exact unhide hu)
theorem specRound (n u : Int) (hn : 0 ≤ n ∧ n ≤ 200000) (hu : Hid ((2 * n + 50) / 100 = u)) (w : World) :
    Calls Try.prog 49 #[.int .i64 n, .int .i64 50] w fun e w' => e = .returned (.int .i64 u) ∧ w = w' := by
  go_enter Try.func49, Try.ntmps49
  go_wp2_with fail
  refine (specFloor (2 * n + 50) u (by omega) hu w).mono ?_
  rintro e w1 ⟨rfl, rfl⟩
  go_wp2
  go_ret
  exact ⟨rfl, rfl⟩

set_option maxRecDepth 20000 in
set_option maxHeartbeats 1600000 in
theorem specScale (ao : Option Addr) (n cap : Nat) (zs : List Int) (ql : Int) (w : World) (hr : Rd .i64 w ao n zs) (b : Bool) (hb : Hid (numsB 1 1023 zs = b)) (L : List Int) (HL : Hid ((if b && decide (0 ≤ ql ∧ ql ≤ 100) then scaled zs ql else []) = L)) :
    Calls Try.prog 44 #[.slice ao n cap, .int .i64 ql] w fun e w' => ∃ so sc, e = .returned (.slice so L.length sc) ∧ w'.ownsRow w.heap.size 3 1 (.slice so L.length sc) L.length (L.map (Value.int .i64)) ∧ w.grownBy w' none := by
  have HO : Hid ((w.alloc (.cells #[] 3)).ownsRow w.heap.size 3 1 (.slice (some ⟨w.heap.size, 0, none⟩) 0 0) 0 []) := World.ownsRow_lit w #[] 0 (Nat.le_refl _) (by unfold maxLen; omega) rfl
  have HR := hide hr
  clear hr
  go_enter Try.func44, Try.ntmps44
  go_wp2_with fail
  refine (specTableOk ao n cap zs _ ((unhide HR).grown (World.grownBy_alloc _ _ _)) b hb).mono ?_
  rintro e w1 ⟨rfl, g1⟩
  have HG1 : Hid (w.grownBy w1 none) := grown_trans (World.grownBy_alloc _ _ _) g1
  have HO1 := hide (own_grown (unhide HO) g1)
  clear g1 HO
  cases b with
  | false =>
    have e : L = [] := (unhide HL).symm
    subst e
    go_wp2
    go_ret
    exact ⟨_, _, rfl, unhide HO1, unhide HG1⟩
  | true =>
    have hz := nums_at (unhide hb)
    have hn : n = 64 := by rw [← (unhide HR).1]; exact hz.1
    subst hn
    have HZB := hide hz.2
    clear hz hb
    obtain ⟨t, HT⟩ : ∃ t, Hid (decide (0 ≤ ql ∧ ql ≤ 100) = t) := ⟨_, rfl⟩
    rw [unhide HT] at HL
    go_wp2_with fail
    refine (between ql 0 100 t HT w1).mono ?_
    rintro e w2 ⟨rfl, rfl⟩
    cases t with
    | false =>
      have e : L = [] := (unhide HL).symm
      subst e
      go_wp2
      go_ret
      exact ⟨_, _, rfl, unhide HO1, unhide HG1⟩
    | true =>
      have hql : 0 ≤ ql ∧ ql ≤ 100 := by simpa using unhide HT
      have e : L = scaled zs ql := (unhide HL).symm
      subst e
      clear HL
      have e1 := i64_in (100 - ql) (by omega)
      go_wp2
      go_loopw [5, 6] (fun o i wr => ∃ k : Nat, k ≤ 64 ∧ i = .int .i64 k ∧ Hid (wr.ownsRow w.heap.size 3 1 o k (((scaled zs ql).take k).map (Value.int .i64))) ∧ Hid (w.grownBy wr none)) (fun _ i _ => 64 - (intOf i).toNat)
      case atStart => exact ⟨0, Nat.zero_le _, rfl, HO1, HG1⟩
      case round =>
        obtain ⟨k, hk, rfl, hM, hgk⟩ := hrel
        obtain ⟨so2, sc2, rfl⟩ := own_form (unhide hM)
        by_cases hlt : k < 64
        · obtain ⟨ab, aoff, rfl, hac⟩ := (unhide HR).2 k hlt
          have hbn := unhide HZB k hlt
          have hm := scale_mul hbn hql
          have hac2 := (unhide hgk).cell hac (by simp)
          obtain ⟨v, HV⟩ : ∃ v, Hid ((2 * (zs.getD k 0 * (100 - ql)) + 50) / 100 = v) := ⟨_, rfl⟩
          have HV2 : Hid (min (max v 1) 1023 = (fun k => scaleI (zs.getD k 0) ql) k) := by unfold Hid; rw [← unhide HV]; rfl
          have e2 := i64_in (zs.getD k 0 * (100 - ql)) (by omega)
          generalize zs.getD k 0 = zb at hac2 hm HV e2
          clear hac hbn
          go_wp2_with fail
          refine (specRound (zb * (100 - ql)) v (by omega) HV wr).mono ?_
          rintro e w3 ⟨rfl, rfl⟩
          by_cases h1 : v < 1
          · go_wp2_with (at_builtin; refine append_int rfl _ _ rfl w _ k ((scaled zs ql).take k) rfl (unhide hM) _ rfl (by omega) (unhide hgk) ?_; intro v' w' ho hg)
            go_roundw
            case rel =>
              refine ⟨k + 1, by omega, by go_num, ?_, hg⟩
              unfold scaled at ho
              rw [made_take _ k hlt _ (by rw [← unhide HV2]; omega)] at ho
              exact ho
            case measure => simp [intOf]; omega
          · by_cases h2 : 1023 < v
            · go_wp2_with (at_builtin; refine append_int rfl _ _ rfl w _ k ((scaled zs ql).take k) rfl (unhide hM) _ rfl (by omega) (unhide hgk) ?_; intro v' w' ho hg)
              go_roundw
              case rel =>
                refine ⟨k + 1, by omega, by go_num, ?_, hg⟩
                unfold scaled at ho
                rw [made_take _ k hlt _ (by rw [← unhide HV2]; omega)] at ho
                exact ho
              case measure => simp [intOf]; omega
            · go_wp2_with (at_builtin; refine append_int rfl _ _ rfl w _ k ((scaled zs ql).take k) rfl (unhide hM) _ rfl (by omega) (unhide hgk) ?_; intro v' w' ho hg)
              go_roundw
              case rel =>
                refine ⟨k + 1, by omega, by go_num, ?_, hg⟩
                unfold scaled at ho
                rw [made_take _ k hlt _ (by rw [← unhide HV2]; omega)] at ho
                exact ho
              case measure => simp [intOf]; omega
        · obtain rfl : k = 64 := by omega
          have hM := unhide hM
          have HE : Hid ((scaled zs ql).length = 64) := made_len _
          unfold scaled at hM
          rw [made_take_all] at hM
          have HM : Hid (wr.ownsRow w.heap.size 3 1 (.slice so2 64 sc2) 64 ((scaled zs ql).map (Value.int .i64))) := hM
          clear hM
          go_wp2
          go_ret
          exact ⟨so2, sc2, by rw [unhide HE]; rfl, by rw [unhide HE]; exact unhide HM, unhide hgk⟩

end Go.Proofs.Ytoeehfjbnbbijab
