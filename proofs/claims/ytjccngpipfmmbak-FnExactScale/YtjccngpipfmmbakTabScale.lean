/-
  Tables that are scaled: the program and the specification.
-/
import Derived.Test.YtjccngpipfmmbakTabSpec
import Derived.Test.YtjccngpipfmmbakFrameImpl
namespace Go.Proofs.Ytjccngpipfmmbak
open Go.RowKit Go.Shelf

def scaleI (n ql : Int) : Int := min (max ((2 * (n * (100 - ql)) + 50) / 100) 1) 1023
def scaled (zs : List Int) (ql : Int) : List Int := made (fun k => scaleI (zs.getD k 0) ql)
theorem scale_mul {n ql : Int} (hn : 1 ≤ n ∧ n ≤ 1023) (hq : 0 ≤ ql ∧ ql ≤ 100) : 0 ≤ n * (100 - ql) ∧ n * (100 - ql) ≤ 102300 := by
  constructor
  · exact Int.mul_nonneg (by omega) (by omega)
  · have h1 : n * (100 - ql) ≤ 1023 * (100 - ql) := Int.mul_le_mul_of_nonneg_right hn.2 (by omega)
    omega

theorem divRound50 (n u : Int) (hn : 0 ≤ n ∧ n ≤ 200000) (hu : Hid ((2 * n + 50) / 100 = u)) (w : World) :
    Calls Try.prog 29 #[.int .i64 n, .int .i64 50] w fun e w' => e = .returned (.int .i64 u) ∧ w = w' := by
  go_enter Try.func29, Try.ntmps29
  go_wp2
  go_ret
  refine ⟨ret_int ?_, rfl⟩
  first | exact unhide hu | (rw [Int.tdiv_eq_ediv_of_nonneg (by omega)]; exact unhide hu)

set_option maxHeartbeats 400000 in
theorem scale1 (n ql u : Int) (g : Nat) (hn : 1 ≤ n ∧ n ≤ 1023) (hq : 0 ≤ ql ∧ ql ≤ 100) (hu : Hid (scaleI n ql = u)) (w : World) (hc : w.cell? ⟨g, 0, none⟩ = some (.int .i64 ql)) :
    Calls Try.prog 27 #[.int .i64 n, .pointer (some ⟨g, 0, none⟩)] w fun e w' => e = .returned (.int .i64 u) ∧ w = w' := by
  have hm := scale_mul hn hq
  have e1 := i64_in (100 - ql) (by omega)
  have e2 := i64_in (n * (100 - ql)) (by omega)
  obtain ⟨v, HV⟩ : ∃ v, Hid ((2 * (n * (100 - ql)) + 50) / 100 = v) := ⟨_, rfl⟩
  have HU : Hid (min (max v 1) 1023 = u) := by unfold Hid; rw [← unhide HV]; exact unhide hu
  clear hu
  go_enter Try.func27, Try.ntmps27
  go_wp2_with fail
  refine (divRound50 (n * (100 - ql)) v (by omega) HV w).mono ?_
  rintro e w1 ⟨rfl, rfl⟩
  go_wp2_with fail
  refine (nearestStep v w).mono ?_
  rintro e w1 ⟨rfl, rfl⟩
  go_wp2
  go_ret
  exact ⟨ret_int (unhide HU), rfl⟩

set_option maxRecDepth 20000 in
set_option maxHeartbeats 1600000 in
theorem implScale (ao : Option Addr) (n cap : Nat) (zs : List Int) (ql : Int) (w : World) (hr : Rd .i64 w ao n zs) (b : Bool) (hb : Hid (numsB 1 1023 zs = b)) (L : List Int) (HL : Hid ((if b && decide (0 ≤ ql ∧ ql ≤ 100) then scaled zs ql else []) = L)) :
    Calls Try.prog 10 #[.slice ao n cap, .int .i64 ql] w fun e w' => ∃ so sc, e = .returned (.slice so L.length sc) ∧ w'.ownsRow w.heap.size 3 1 (.slice so L.length sc) L.length (L.map (Value.int .i64)) ∧ w.grownBy w' none := by
  have HR := hide hr
  clear hr
  have HQ0 := hide (heap_alloc_new w (.cells #[.int .i64 ql] 3))
  go_enter Try.func10, Try.ntmps10
  go_wp2_with fail
  refine (fixTable ao n cap zs _ ((unhide HR).grown (World.grownBy_alloc _ _ _)) b hb).mono ?_
  rintro e w1 ⟨⟨ys, rfl, hy, hyz⟩, g1⟩
  have HY := hide hy
  have HYZ := hide hyz
  have HG1 : Hid (w.grownBy w1 none) := grown_trans (World.grownBy_alloc _ _ _) g1
  have HQ1 := hide ((g1.block w.heap.size (by simp) (by simp)).trans (unhide HQ0))
  have HS1 : Hid (w.heap.size < w1.heap.size) := by have := g1.size; unfold Hid; simp at this; omega
  clear hy hyz g1 HQ0
  have go2 : ∀ (w2 : World), w2.heap[w1.heap.size]? = some (.cells (sq ys) 33 (0, 0)) → (w1.alloc (.cells #[.int .i64 0, .int .i64 0, .int .i64 0, .int .i64 0, .int .i64 0, .int .i64 0, .int .i64 0, .int .i64 0, .int .i64 0, .int .i64 0, .int .i64 0, .int .i64 0, .int .i64 0, .int .i64 0, .int .i64 0, .int .i64 0, .int .i64 0, .int .i64 0, .int .i64 0, .int .i64 0, .int .i64 0, .int .i64 0, .int .i64 0, .int .i64 0, .int .i64 0, .int .i64 0, .int .i64 0, .int .i64 0, .int .i64 0, .int .i64 0, .int .i64 0, .int .i64 0, .int .i64 0, .int .i64 0, .int .i64 0, .int .i64 0, .int .i64 0, .int .i64 0, .int .i64 0, .int .i64 0, .int .i64 0, .int .i64 0, .int .i64 0, .int .i64 0, .int .i64 0, .int .i64 0, .int .i64 0, .int .i64 0, .int .i64 0, .int .i64 0, .int .i64 0, .int .i64 0, .int .i64 0, .int .i64 0, .int .i64 0, .int .i64 0, .int .i64 0, .int .i64 0, .int .i64 0, .int .i64 0, .int .i64 0, .int .i64 0, .int .i64 0, .int .i64 0] 33)).grownBy w2 (some w1.heap.size) → w.grownBy w2 none ∧ w2.cell? ⟨w.heap.size, 0, none⟩ = some (.int .i64 ql) := fun w2 h1 h2 => by
    have hs := unhide HS1
    refine ⟨grown_new (grown_alloc (unhide HG1) _) h2 (fun g' e => by simp at e; omega), ?_⟩
    have hq := (h2.block w.heap.size (by simp; omega) (by simp; omega)).trans ((Below.heap_alloc _ _ _ hs).trans (unhide HQ1))
    rw [cell_of_row w2 _ 0 _ _ (0, 0) hq]; rfl
  have GO2 := hide go2
  clear go2
  cases b with
  | false =>
    have e : L = [] := (unhide HL).symm
    subst e
    go_wp2_with (refine store_row rfl 33 _ _ rfl w1.heap.size rfl (sq ys) rfl #[.int .i64 0, .int .i64 0, .int .i64 0, .int .i64 0, .int .i64 0, .int .i64 0, .int .i64 0, .int .i64 0, .int .i64 0, .int .i64 0, .int .i64 0, .int .i64 0, .int .i64 0, .int .i64 0, .int .i64 0, .int .i64 0, .int .i64 0, .int .i64 0, .int .i64 0, .int .i64 0, .int .i64 0, .int .i64 0, .int .i64 0, .int .i64 0, .int .i64 0, .int .i64 0, .int .i64 0, .int .i64 0, .int .i64 0, .int .i64 0, .int .i64 0, .int .i64 0, .int .i64 0, .int .i64 0, .int .i64 0, .int .i64 0, .int .i64 0, .int .i64 0, .int .i64 0, .int .i64 0, .int .i64 0, .int .i64 0, .int .i64 0, .int .i64 0, .int .i64 0, .int .i64 0, .int .i64 0, .int .i64 0, .int .i64 0, .int .i64 0, .int .i64 0, .int .i64 0, .int .i64 0, .int .i64 0, .int .i64 0, .int .i64 0, .int .i64 0, .int .i64 0, .int .i64 0, .int .i64 0, .int .i64 0, .int .i64 0, .int .i64 0, .int .i64 0] 33 (heap_alloc_new _ _) (by rw [sq_size, unhide HY]; rfl) (by rw [sq_size, unhide HY]; kernel_rfl) (sq_one _) ?_; intro w2 hB2 g2)
    go_ret
    exact ⟨none, 0, rfl, World.ownsRow_nil _ _ _ _, (unhide GO2 w2 hB2 g2).1⟩
  | true =>
    have hz := nums_at (unhide hb)
    have hn : n = 64 := by rw [← (unhide HR).1]; exact hz.1
    have e : ys = zs := unhide HYZ hn
    subst e
    have HZB := hide hz.2
    clear hz
    go_wp2_with (refine store_row rfl 33 _ _ rfl w1.heap.size rfl (sq ys) rfl #[.int .i64 0, .int .i64 0, .int .i64 0, .int .i64 0, .int .i64 0, .int .i64 0, .int .i64 0, .int .i64 0, .int .i64 0, .int .i64 0, .int .i64 0, .int .i64 0, .int .i64 0, .int .i64 0, .int .i64 0, .int .i64 0, .int .i64 0, .int .i64 0, .int .i64 0, .int .i64 0, .int .i64 0, .int .i64 0, .int .i64 0, .int .i64 0, .int .i64 0, .int .i64 0, .int .i64 0, .int .i64 0, .int .i64 0, .int .i64 0, .int .i64 0, .int .i64 0, .int .i64 0, .int .i64 0, .int .i64 0, .int .i64 0, .int .i64 0, .int .i64 0, .int .i64 0, .int .i64 0, .int .i64 0, .int .i64 0, .int .i64 0, .int .i64 0, .int .i64 0, .int .i64 0, .int .i64 0, .int .i64 0, .int .i64 0, .int .i64 0, .int .i64 0, .int .i64 0, .int .i64 0, .int .i64 0, .int .i64 0, .int .i64 0, .int .i64 0, .int .i64 0, .int .i64 0, .int .i64 0, .int .i64 0, .int .i64 0, .int .i64 0, .int .i64 0] 33 (heap_alloc_new _ _) (by rw [sq_size, unhide HY]; rfl) (by rw [sq_size, unhide HY]; kernel_rfl) (sq_one _) ?_; intro w2 hB2 g2; have hq2 := (unhide GO2 w2 hB2 g2).2; have HG2 := hide (unhide GO2 w2 hB2 g2).1; have HB2 := hide hB2; clear hB2 g2)
    obtain ⟨t, HT⟩ : ∃ t, Hid (decide (0 ≤ ql ∧ ql ≤ 100) = t) := ⟨_, rfl⟩
    rw [unhide HT] at HL
    refine (inRange ql 0 100 t HT w2).mono ?_
    rintro e w3 ⟨rfl, rfl⟩
    cases t with
    | false =>
      have e : L = [] := (unhide HL).symm
      subst e
      go_wp2
      go_ret
      exact ⟨none, 0, rfl, World.ownsRow_nil _ _ _ _, unhide HG2⟩
    | true =>
      have hql : 0 ≤ ql ∧ ql ≤ 100 := by simpa using unhide HT
      have e : L = scaled ys ql := (unhide HL).symm
      subst e
      have HE : Hid ((scaled ys ql).length = 64) := made_len _
      clear HL
      go_wp2_with (refine load_row rfl 33 _ rfl w1.heap.size rfl (sq ys) 33 (unhide HB2) _ Try.underlying33 rfl (by rw [sq_size, unhide HY]; kernel_rfl) ?_)
      refine (each ys (unhide HY) (fun k => scaleI (ys.getD k 0) ql) 27 #[.pointer (some ⟨w.heap.size, 0, none⟩)] (enters_of Try.func27 (by kernel_rfl) rfl) w2 (fun k hk W hW => ?_)).mono ?_
      · refine (scale1 _ ql _ w.heap.size (unhide HZB k hk) hql rfl W (hW.cell hq2 (by simp))).mono ?_
        rintro e w' ⟨rfl, rfl⟩
        exact ⟨rfl, World.grownBy.refl _ _⟩
      · rintro e w5 ⟨rfl, g5⟩
        go_wp2_with fail
        refine (list _ (made_len _) w5).mono ?_
        rintro e w6 ⟨v, rfl, ho, g6⟩
        go_wp2
        go_ret
        have G5 := grown_trans (unhide HG2) g5
        have ho2 : w6.ownsRow w5.heap.size 3 1 v (scaled ys ql).length ((scaled ys ql).map (Value.int .i64)) := by rw [unhide HE]; exact ho
        obtain ⟨so, sc, rfl⟩ := own_form ho2
        exact ⟨_, _, rfl, own_base ho2 G5.size, grown_trans G5 g6⟩

theorem specFloor (n u : Int) (hn : 0 ≤ n ∧ n ≤ 1000000) (hu : Hid (n / 100 = u)) (w : World) :
    Calls Try.prog 40 #[.int .i64 n, .int .i64 100] w fun e w' => e = .returned (.int .i64 u) ∧ w = w' := by
  go_enter Try.func40, Try.ntmps40
  go_wp2
  go_ret
  refine ⟨ret_int ?_, rfl⟩
  first | exact unhide hu | (rw [Int.tdiv_eq_ediv_of_nonneg (by omega)]; exact unhide hu)
theorem specRound (n u : Int) (hn : 0 ≤ n ∧ n ≤ 200000) (hu : Hid ((2 * n + 50) / 100 = u)) (w : World) :
    Calls Try.prog 24 #[.int .i64 n, .int .i64 50] w fun e w' => e = .returned (.int .i64 u) ∧ w = w' := by
  go_enter Try.func24, Try.ntmps24
  go_wp2_with fail
  refine (specFloor (2 * n + 50) u (by omega) hu w).mono ?_
  rintro e w1 ⟨rfl, rfl⟩
  go_wp2
  go_ret
  exact ⟨rfl, rfl⟩
theorem made_take (f : Nat → Int) (k : Nat) (h : k < 64) (z : Int) (hz : z = f k) : (made f).take k ++ [z] = (made f).take (k + 1) := by
  subst hz
  rw [List.take_add_one]
  have : (made f)[k]? = some (f k) := by simp [made, h]
  rw [this]
  rfl
theorem made_take_all (f : Nat → Int) : (made f).take 64 = made f := List.take_of_length_le (by rw [made_len]; exact Nat.le_refl _)

set_option maxRecDepth 20000 in
set_option maxHeartbeats 1600000 in
theorem specScale (ao : Option Addr) (n cap : Nat) (zs : List Int) (ql : Int) (w : World) (hr : Rd .i64 w ao n zs) (b : Bool) (hb : Hid (numsB 1 1023 zs = b)) (L : List Int) (HL : Hid ((if b && decide (0 ≤ ql ∧ ql ≤ 100) then scaled zs ql else []) = L)) :
    Calls Try.prog 8 #[.slice ao n cap, .int .i64 ql] w fun e w' => ∃ so sc, e = .returned (.slice so L.length sc) ∧ w'.ownsRow w.heap.size 3 1 (.slice so L.length sc) L.length (L.map (Value.int .i64)) ∧ w.grownBy w' none := by
  have HO : Hid ((w.alloc (.cells #[] 3)).ownsRow w.heap.size 3 1 (.slice (some ⟨w.heap.size, 0, none⟩) 0 0) 0 []) := World.ownsRow_lit w #[] 0 (Nat.le_refl _) (by unfold maxLen; omega) rfl
  have HR := hide hr
  clear hr
  go_enter Try.func8, Try.ntmps8
  go_wp2_with fail
  refine (specTableOk ao n cap zs _ ((unhide HR).grown (World.grownBy_alloc _ _ _)) b hb).mono ?_
  rintro e w1 ⟨rfl, g1⟩
  have HG1 : Hid (w.grownBy w1 none) := grown_trans (World.grownBy_alloc _ _ _) g1
  have HO1 := hide (own_grown (unhide HO) g1)
  clear g1 HO
  cases b with
  | false =>
    have e : L = [] := (unhide HL).symm
    subst e
    go_wp2
    go_ret
    exact ⟨_, _, rfl, unhide HO1, unhide HG1⟩
  | true =>
    have hz := nums_at (unhide hb)
    have hn : n = 64 := by rw [← (unhide HR).1]; exact hz.1
    subst hn
    have HZB := hide hz.2
    clear hz hb
    obtain ⟨t, HT⟩ : ∃ t, Hid (decide (0 ≤ ql ∧ ql ≤ 100) = t) := ⟨_, rfl⟩
    rw [unhide HT] at HL
    go_wp2_with fail
    refine (between ql 0 100 t HT w1).mono ?_
    rintro e w2 ⟨rfl, rfl⟩
    cases t with
    | false =>
      have e : L = [] := (unhide HL).symm
      subst e
      go_wp2
      go_ret
      exact ⟨_, _, rfl, unhide HO1, unhide HG1⟩
    | true =>
      have hql : 0 ≤ ql ∧ ql ≤ 100 := by simpa using unhide HT
      have e : L = scaled zs ql := (unhide HL).symm
      subst e
      clear HL
      have e1 := i64_in (100 - ql) (by omega)
      go_wp2
      go_loopw [5, 6] (fun o i wr => ∃ k : Nat, k ≤ 64 ∧ i = .int .i64 k ∧ Hid (wr.ownsRow w.heap.size 3 1 o k (((scaled zs ql).take k).map (Value.int .i64))) ∧ Hid (w.grownBy wr none)) (fun _ i _ => 64 - (intOf i).toNat)
      case atStart => exact ⟨0, Nat.zero_le _, rfl, HO1, HG1⟩
      case round =>
        obtain ⟨k, hk, rfl, hM, hgk⟩ := hrel
        obtain ⟨so2, sc2, rfl⟩ := own_form (unhide hM)
        by_cases hlt : k < 64
        · obtain ⟨ab, aoff, rfl, hac⟩ := (unhide HR).2 k hlt
          have hbn := unhide HZB k hlt
          have hm := scale_mul hbn hql
          have hac2 := (unhide hgk).cell hac (by simp)
          obtain ⟨v, HV⟩ : ∃ v, Hid ((2 * (zs.getD k 0 * (100 - ql)) + 50) / 100 = v) := ⟨_, rfl⟩
          have HV2 : Hid (min (max v 1) 1023 = (fun k => scaleI (zs.getD k 0) ql) k) := by unfold Hid; rw [← unhide HV]; rfl
          have e2 := i64_in (zs.getD k 0 * (100 - ql)) (by omega)
          generalize zs.getD k 0 = zb at hac2 hm HV e2
          clear hac hbn
          go_wp2_with fail
          refine (specRound (zb * (100 - ql)) v (by omega) HV wr).mono ?_
          rintro e w3 ⟨rfl, rfl⟩
          by_cases h1 : v < 1
          · go_wp2_with (at_builtin; refine append_int rfl _ _ rfl w _ k ((scaled zs ql).take k) rfl (unhide hM) _ rfl (by omega) (unhide hgk) ?_; intro v' w' ho hg)
            go_roundw
            case rel =>
              refine ⟨k + 1, by omega, by go_num, ?_, hg⟩
              unfold scaled at ho
              rw [made_take _ k hlt _ (by rw [← unhide HV2]; omega)] at ho
              exact ho
            case measure => simp [intOf]; omega
          · by_cases h2 : 1023 < v
            · go_wp2_with (at_builtin; refine append_int rfl _ _ rfl w _ k ((scaled zs ql).take k) rfl (unhide hM) _ rfl (by omega) (unhide hgk) ?_; intro v' w' ho hg)
              go_roundw
              case rel =>
                refine ⟨k + 1, by omega, by go_num, ?_, hg⟩
                unfold scaled at ho
                rw [made_take _ k hlt _ (by rw [← unhide HV2]; omega)] at ho
                exact ho
              case measure => simp [intOf]; omega
            · go_wp2_with (at_builtin; refine append_int rfl _ _ rfl w _ k ((scaled zs ql).take k) rfl (unhide hM) _ rfl (by omega) (unhide hgk) ?_; intro v' w' ho hg)
              go_roundw
              case rel =>
                refine ⟨k + 1, by omega, by go_num, ?_, hg⟩
                unfold scaled at ho
                rw [made_take _ k hlt _ (by rw [← unhide HV2]; omega)] at ho
                exact ho
              case measure => simp [intOf]; omega
        · obtain rfl : k = 64 := by omega
          have hM := unhide hM
          have HE : Hid ((scaled zs ql).length = 64) := made_len _
          unfold scaled at hM
          rw [made_take_all] at hM
          have HM : Hid (wr.ownsRow w.heap.size 3 1 (.slice so2 64 sc2) 64 ((scaled zs ql).map (Value.int .i64))) := hM
          clear hM
          go_wp2
          go_ret
          exact ⟨so2, sc2, by rw [unhide HE]; rfl, by rw [unhide HE]; exact unhide HM, unhide hgk⟩

end Go.Proofs.Ytjccngpipfmmbak
