/-
  What a table leaves of a block, in the specification.
-/
import Derived.Test.YtoeehfjbnbbijabTabBy
import Derived.Test.YtoeehfjbnbbijabHeldTail
import Derived.Deep.AppendLies
import Derived.Deep.RegionHeld3
namespace Go.Proofs.Ytoeehfjbnbbijab
open Go.RowKit

theorem step_append_int {w : World} {ops : Array Oper} {o : Oper} {a : Act} {K : Act → World → Prop} {Q : Exit → Act → World → Prop} {E : Prop} (hgd : o.guard = none) (s x : Operand)
    (ho : o.op = .call { callee := .builtin .append, args := #[s, x], argTypes := #[24, 24] })
    (B : World) (v : Value) (n : Nat) (xs : List Int) (hs : a.eval s = v) (hown : w.ownsRow B.heap.size 3 1 v n (xs.map (Value.int .i64))) (z : Int) (hx : a.eval x = .slice (some ⟨w.heap.size, 0, none⟩) 1 1)
    (hb : n + 1 ≤ 1000000) (hB : B.grownBy w none)
    (h : ∀ v' w', w'.ownsRow B.heap.size 3 1 v' (n + 1) ((xs ++ [z]).map (Value.int .i64)) → B.grownBy w' none → K (a.put o.dst v') w') :
    if Region.wanted o (yielded ops a.tmps) = true then Oper.wp Try.prog o a (w.alloc (.cells #[.int .i64 z] 3)) K Q else E := by
  obtain ⟨i0, hi, hz0, hz1, hz2⟩ := info_parts Try.info3
  refine step_append_lies _ hgd s x 24 ho B.heap.size 3 i0 (.int .i64 0) 1 8 Try.underlying24 hi hz0 hz1 hz2 rfl (by decide) v n _ hs (hown.alloc _) ⟨w.heap.size, 0, none⟩ 1 1 [.int .i64 z] hx rfl (cell_one_new _ _ _) (by intro u hu; simp at hu; subst hu; rfl) (by omega) (by unfold maxLen; omega) (by omega) (by have := hB.size; simp; omega) _ rfl ?_
  intro g cap w' h1 h2 _ _
  exact h _ w' (by rw [List.map_append]; exact h1) (grown_new (grown_alloc hB _) h2 (fun g e => (hown.lt g e).1))

theorem specNear (n s u : Int) (hn : -32767 ≤ n ∧ n ≤ 32767) (hs : 1 ≤ s ∧ s ≤ 1023) (hu : Hid (quantI n s = u)) (w : World) :
    Calls Try.prog 32 #[.int .i64 n, .int .i64 s] w fun e w' => e = .returned (.int .i64 u) ∧ w = w' := by
  have hd0 : (2 * s == 0) = false := by simp; omega
  have hm1 : (2 * s == -1) = false := by simp; omega
  by_cases h : n < 0
  · obtain ⟨v, hv⟩ : ∃ v, Hid (divI (-n) s = v) := ⟨_, rfl⟩
    have hb := divI_bounds (n := -n) (d := s) (by omega) (by omega)
    rw [unhide hv] at hb
    have e : u = -v := by rw [← unhide hu, quantI, if_pos h, unhide hv]
    subst e
    have hv' : (-2 * n + s) / (2 * s) = v := by rw [← unhide hv, divI]; congr 1; omega
    have HV := hide hv'
    clear hu hv hv'
    go_enter Try.func32, Try.ntmps32
    go_wp2
    all_goals
      first
        | (go_ret
           refine ⟨ret_int ?_, rfl⟩
           first | (rw [unhide HV]; done) | (rw [unhide HV, IntWalk.wrap64_in _ (by omega)]; done) | (simp [unhide HV]; done) | (rw [unhide HV]; rw [IntKind.wrap_i64]; omega))
  · have e : divI n s = u := by rw [← unhide hu, quantI, if_neg h]
    have HE : Hid ((2 * n + s) / (2 * s) = u) := e
    clear hu e
    go_enter Try.func32, Try.ntmps32
    go_wp2
    go_ret
    refine ⟨ret_int ?_, rfl⟩
    first | exact unhide HE | (rw [Int.tdiv_eq_ediv_of_nonneg (by omega)]; exact unhide HE)

theorem specClip (n lo hi : Int) (h : lo ≤ hi) (w : World) :
    Calls Try.prog 34 #[.int .i64 n, .int .i64 lo, .int .i64 hi] w fun e w' => e = .returned (.int .i64 (min (max n lo) hi)) ∧ w = w' := by
  by_cases h1 : n < lo
  · go_enter Try.func34, Try.ntmps34
    go_wp2
    go_ret
    exact ⟨ret_int (by omega), rfl⟩
  · by_cases h2 : hi < n
    · go_enter Try.func34, Try.ntmps34
      go_wp2
      go_ret
      exact ⟨ret_int (by omega), rfl⟩
    · go_enter Try.func34, Try.ntmps34
      go_wp2
      go_ret
      exact ⟨ret_int (by omega), rfl⟩


set_option maxRecDepth 20000 in
set_option maxHeartbeats 1600000 in
theorem specQuantize (ao bo : Option Addr) (n m cap cap' : Nat) (zs xs : List Int) (w : World) (hr : Rd .i64 w ao n zs) (hx : Rd .i64 w bo m xs) (b c : Bool) (hb : Hid (numsB (-32767) 32767 zs = b)) (hc : Hid (numsB 1 1023 xs = c)) (L : List Int) (HL : Hid ((if b && c then quantL zs xs else []) = L)) :
    Calls Try.prog 17 #[.slice ao n cap, .slice bo m cap'] w fun e w' => ∃ so sc, e = .returned (.slice so L.length sc) ∧ w'.ownsRow w.heap.size 3 1 (.slice so L.length sc) L.length (L.map (Value.int .i64)) ∧ w.grownBy w' none := by
  have HO : Hid ((w.alloc (.cells #[] 3)).ownsRow w.heap.size 3 1 (.slice (some ⟨w.heap.size, 0, none⟩) 0 0) 0 []) := World.ownsRow_lit w #[] 0 (Nat.le_refl _) (by unfold maxLen; omega) rfl
  have HR := hide hr
  have HX := hide hx
  clear hr hx
  go_enter Try.func17, Try.ntmps17
  go_wp2_with fail
  refine (specBlockOk ao n cap zs _ ((unhide HR).grown (World.grownBy_alloc _ _ _)) b hb).mono ?_
  rintro e w1 ⟨rfl, g1⟩
  have HG1 : Hid (w.grownBy w1 none) := grown_trans (World.grownBy_alloc _ _ _) g1
  have HO1 := hide (own_grown (unhide HO) g1)
  clear g1 HO
  cases b with
  | false =>
    have e : L = [] := (unhide HL).symm
    subst e
    go_wp2
    go_ret
    exact ⟨_, _, rfl, unhide HO1, unhide HG1⟩
  | true =>
    have hz := nums_at (unhide hb)
    have hn : n = 64 := by rw [← (unhide HR).1]; exact hz.1
    subst hn
    have HZB := hide hz.2
    clear hz hb
    go_wp2_with fail
    refine (specTableOk bo m cap' xs _ ((unhide HX).grown (unhide HG1)) c hc).mono ?_
    rintro e w2 ⟨rfl, g2⟩
    have HG2 : Hid (w.grownBy w2 none) := grown_trans (unhide HG1) g2
    have HO2 := hide (own_grown (unhide HO1) g2)
    clear g2 HO1 HG1
    cases c with
    | false =>
      have e : L = [] := (unhide HL).symm
      subst e
      go_wp2
      go_ret
      exact ⟨_, _, rfl, unhide HO2, unhide HG2⟩
    | true =>
      have hz := nums_at (unhide hc)
      have hm : m = 64 := by rw [← (unhide HX).1]; exact hz.1
      subst hm
      have HZQ := hide hz.2
      have e : L = quantL zs xs := (unhide HL).symm
      subst e
      clear hz hc HL
      go_wp2
      go_loopw [5, 6] (fun o i wr => ∃ k : Nat, k ≤ 64 ∧ i = .int .i64 k ∧ Hid (wr.ownsRow w.heap.size 3 1 o k (((quantL zs xs).take k).map (Value.int .i64))) ∧ Hid (w.grownBy wr none)) (fun _ i _ => 64 - (intOf i).toNat)
      case atStart => exact ⟨0, Nat.zero_le _, rfl, HO2, HG2⟩
      case round =>
        obtain ⟨k, hk, rfl, hM, hgk⟩ := hrel
        obtain ⟨so2, sc2, rfl⟩ := own_form (unhide hM)
        by_cases hlt : k < 64
        · obtain ⟨ab, aoff, rfl, hac⟩ := (unhide HR).2 k hlt
          obtain ⟨qb, qoff, rfl, hqc⟩ := (unhide HX).2 k hlt
          have HBN := hide (unhide HZB k hlt)
          have HQN := hide (unhide HZQ k hlt)
          obtain ⟨u, HU⟩ : ∃ u, Hid (quantI (zs.getD k 0) (xs.getD k 0) = u) := ⟨_, rfl⟩
          have HV : Hid (u = (fun k => quantI (zs.getD k 0) (xs.getD k 0)) k) := (unhide HU).symm
          generalize zs.getD k 0 = zb at hac HBN HU
          generalize xs.getD k 0 = zq at hqc HQN HU
          
          have HA := hide hac
          have HQ := hide hqc
          have hac2 := (unhide hgk).cell hac (by simp)
          have hqc2 := (unhide hgk).cell hqc (by simp)
          clear hac hqc
          go_wp2
          refine wp_region_noPanic ?_
          refine wp_region_tail (fun w' => w'.cell? ⟨ab, aoff + k, none⟩ = some (.int .i64 zb) ∧ w'.cell? ⟨qb, qoff + k, none⟩ = some (.int .i64 zq)) [true, true, true, true, true, true, true, true, true, false, false, false, false] (by kernel_rfl) (fun _ _ _ _ _ h => h) rfl (by kernel_rfl) ⟨hac2, hqc2⟩ ?_
          iterate 9
            refine heldF_take (v := ?_) (Or.inl ⟨by rfl, ?_⟩) ?_
            rotate_left 1
            · intro w' hSw
              try dsimp only at hSw
              go_simp
              try with_reducible rfl
            simp only [Act.put, List.setIfInBounds_toArray, List.set_cons_zero, List.set_cons_succ]
          refine heldF_skip (heldF_skip (heldF_skip (heldF_skip (heldF_nil ?_))))
          iterate 9 refine tailF_skip ?_
          refine tailF_step (fun K hK => ?_)
          go_simp
          refine (specNear zb zq u (unhide HBN) (unhide HQN) HU _).mono ?_
          rintro e w3 ⟨rfl, rfl⟩
          refine hK.out _ _ ⟨hac2, hqc2⟩ ?_
          clear hK K
          refine tailF_step (fun K hK => ?_)
          go_simp
          refine hK.out _ _ ⟨(grown_alloc (grown_drew (unhide hgk)) _).cell (unhide HA) (by simp), (grown_alloc (grown_drew (unhide hgk)) _).cell (unhide HQ) (by simp)⟩ ?_
          clear hK K
          refine tailF_step (fun K hK => ?_)
          refine step_append_int (w := wr.drew) (by rfl) _ _ (by rfl) w _ k ((quantL zs xs).take k) (by rfl) (unhide hM) u (by rfl) (by omega) (grown_drew (unhide hgk)) ?_
          intro v' w4 ho hg4
          refine hK.out _ _ ⟨hg4.cell (unhide HA) (by simp), hg4.cell (unhide HQ) (by simp)⟩ ?_
          clear hK K
          try simp only [Act.put, List.setIfInBounds_toArray, List.set_cons_zero, List.set_cons_succ]
          refine tailF_step (fun K hK => ?_)
          go_simp
          refine hK.out _ _ ⟨hg4.cell (unhide HA) (by simp), hg4.cell (unhide HQ) (by simp)⟩ ?_
          clear hK K
          refine tailF_nil (NoPanic.normal ?_)
          have HO4 := hide ho
          have HG4 := hide hg4
          clear ho hg4
          go_wp2
          go_roundw
          case rel =>
            refine ⟨k + 1, by omega, by go_num, ?_, HG4⟩
            have ho := unhide HO4
            unfold quantL at ho
            rw [made_take _ k hlt _ (unhide HV)] at ho
            exact ho
          case measure => simp [intOf]; omega
        · obtain rfl : k = 64 := by omega
          have hM := unhide hM
          have HE : Hid ((quantL zs xs).length = 64) := made_len _
          unfold quantL at hM
          rw [made_take_all] at hM
          have HM : Hid (wr.ownsRow w.heap.size 3 1 (.slice so2 64 sc2) 64 ((quantL zs xs).map (Value.int .i64))) := hM
          clear hM
          go_wp2
          go_ret
          exact ⟨so2, sc2, by rw [unhide HE]; rfl, by rw [unhide HE]; exact unhide HM, unhide hgk⟩

set_option maxRecDepth 20000 in
set_option maxHeartbeats 1600000 in
theorem specDequantize (ao bo : Option Addr) (n m cap cap' : Nat) (zs xs : List Int) (w : World) (hr : Rd .i64 w ao n zs) (hx : Rd .i64 w bo m xs) (b c : Bool) (hb : Hid (numsB (-32767) 32767 zs = b)) (hc : Hid (numsB 1 1023 xs = c)) (L : List Int) (HL : Hid ((if b && c then dequantL zs xs else []) = L)) :
    Calls Try.prog 20 #[.slice ao n cap, .slice bo m cap'] w fun e w' => ∃ so sc, e = .returned (.slice so L.length sc) ∧ w'.ownsRow w.heap.size 3 1 (.slice so L.length sc) L.length (L.map (Value.int .i64)) ∧ w.grownBy w' none := by
  have HO : Hid ((w.alloc (.cells #[] 3)).ownsRow w.heap.size 3 1 (.slice (some ⟨w.heap.size, 0, none⟩) 0 0) 0 []) := World.ownsRow_lit w #[] 0 (Nat.le_refl _) (by unfold maxLen; omega) rfl
  have HR := hide hr
  have HX := hide hx
  clear hr hx
  go_enter Try.func20, Try.ntmps20
  go_wp2_with fail
  refine (specBlockOk ao n cap zs _ ((unhide HR).grown (World.grownBy_alloc _ _ _)) b hb).mono ?_
  rintro e w1 ⟨rfl, g1⟩
  have HG1 : Hid (w.grownBy w1 none) := grown_trans (World.grownBy_alloc _ _ _) g1
  have HO1 := hide (own_grown (unhide HO) g1)
  clear g1 HO
  cases b with
  | false =>
    have e : L = [] := (unhide HL).symm
    subst e
    go_wp2
    go_ret
    exact ⟨_, _, rfl, unhide HO1, unhide HG1⟩
  | true =>
    have hz := nums_at (unhide hb)
    have hn : n = 64 := by rw [← (unhide HR).1]; exact hz.1
    subst hn
    have HZB := hide hz.2
    clear hz hb
    go_wp2_with fail
    refine (specTableOk bo m cap' xs _ ((unhide HX).grown (unhide HG1)) c hc).mono ?_
    rintro e w2 ⟨rfl, g2⟩
    have HG2 : Hid (w.grownBy w2 none) := grown_trans (unhide HG1) g2
    have HO2 := hide (own_grown (unhide HO1) g2)
    clear g2 HO1 HG1
    cases c with
    | false =>
      have e : L = [] := (unhide HL).symm
      subst e
      go_wp2
      go_ret
      exact ⟨_, _, rfl, unhide HO2, unhide HG2⟩
    | true =>
      have hz := nums_at (unhide hc)
      have hm : m = 64 := by rw [← (unhide HX).1]; exact hz.1
      subst hm
      have HZQ := hide hz.2
      have e : L = dequantL zs xs := (unhide HL).symm
      subst e
      clear hz hc HL
      go_wp2
      go_loopw [5, 6] (fun o i wr => ∃ k : Nat, k ≤ 64 ∧ i = .int .i64 k ∧ Hid (wr.ownsRow w.heap.size 3 1 o k (((dequantL zs xs).take k).map (Value.int .i64))) ∧ Hid (w.grownBy wr none)) (fun _ i _ => 64 - (intOf i).toNat)
      case atStart => exact ⟨0, Nat.zero_le _, rfl, HO2, HG2⟩
      case round =>
        obtain ⟨k, hk, rfl, hM, hgk⟩ := hrel
        obtain ⟨so2, sc2, rfl⟩ := own_form (unhide hM)
        by_cases hlt : k < 64
        · obtain ⟨ab, aoff, rfl, hac⟩ := (unhide HR).2 k hlt
          obtain ⟨qb, qoff, rfl, hqc⟩ := (unhide HX).2 k hlt
          have HBN := hide (unhide HZB k hlt)
          have HQN := hide (unhide HZQ k hlt)
          obtain ⟨u, HU⟩ : ∃ u, Hid (dequantI (zs.getD k 0) (xs.getD k 0) = u) := ⟨_, rfl⟩
          have HV : Hid (u = (fun k => dequantI (zs.getD k 0) (xs.getD k 0)) k) := (unhide HU).symm
          generalize zs.getD k 0 = zb at hac HBN HU
          generalize xs.getD k 0 = zq at hqc HQN HU
          have hmb := mul_bounds (unhide HBN) (unhide HQN)
          have hmw := i64_in (zb * zq) (by omega)
          have HA := hide hac
          have HQ := hide hqc
          have hac2 := (unhide hgk).cell hac (by simp)
          have hqc2 := (unhide hgk).cell hqc (by simp)
          clear hac hqc
          go_wp2
          refine wp_region_noPanic ?_
          refine wp_region_tail (fun w' => w'.cell? ⟨ab, aoff + k, none⟩ = some (.int .i64 zb) ∧ w'.cell? ⟨qb, qoff + k, none⟩ = some (.int .i64 zq)) [true, true, true, true, true, true, true, true, true, true, false, false, false, false] (by kernel_rfl) (fun _ _ _ _ _ h => h) rfl (by kernel_rfl) ⟨hac2, hqc2⟩ ?_
          iterate 10
            refine heldF_take (v := ?_) (Or.inl ⟨by rfl, ?_⟩) ?_
            rotate_left 1
            · intro w' hSw
              try dsimp only at hSw
              go_simp
              try with_reducible rfl
            simp only [Act.put, List.setIfInBounds_toArray, List.set_cons_zero, List.set_cons_succ]
          refine heldF_skip (heldF_skip (heldF_skip (heldF_skip (heldF_nil ?_))))
          iterate 10 refine tailF_skip ?_
          refine tailF_step (fun K hK => ?_)
          go_simp
          refine (specClip (zb * zq) (-32767) 32767 (by omega) _).mono ?_
          rintro e w3 ⟨rfl, rfl⟩
          refine hK.out _ _ ⟨hac2, hqc2⟩ ?_
          clear hK K
          rw [show min (max (zb * zq) (-32767)) 32767 = u from unhide HU]
          refine tailF_step (fun K hK => ?_)
          go_simp
          refine hK.out _ _ ⟨(grown_alloc (grown_drew (unhide hgk)) _).cell (unhide HA) (by simp), (grown_alloc (grown_drew (unhide hgk)) _).cell (unhide HQ) (by simp)⟩ ?_
          clear hK K
          refine tailF_step (fun K hK => ?_)
          refine step_append_int (w := wr.drew) (by rfl) _ _ (by rfl) w _ k ((dequantL zs xs).take k) (by rfl) (unhide hM) u (by rfl) (by omega) (grown_drew (unhide hgk)) ?_
          intro v' w4 ho hg4
          refine hK.out _ _ ⟨hg4.cell (unhide HA) (by simp), hg4.cell (unhide HQ) (by simp)⟩ ?_
          clear hK K
          try simp only [Act.put, List.setIfInBounds_toArray, List.set_cons_zero, List.set_cons_succ]
          refine tailF_step (fun K hK => ?_)
          go_simp
          refine hK.out _ _ ⟨hg4.cell (unhide HA) (by simp), hg4.cell (unhide HQ) (by simp)⟩ ?_
          clear hK K
          refine tailF_nil (NoPanic.normal ?_)
          have HO4 := hide ho
          have HG4 := hide hg4
          clear ho hg4
          go_wp2
          go_roundw
          case rel =>
            refine ⟨k + 1, by omega, by go_num, ?_, HG4⟩
            have ho := unhide HO4
            unfold dequantL at ho
            rw [made_take _ k hlt _ (unhide HV)] at ho
            exact ho
          case measure => simp [intOf]; omega
        · obtain rfl : k = 64 := by omega
          have hM := unhide hM
          have HE : Hid ((dequantL zs xs).length = 64) := made_len _
          unfold dequantL at hM
          rw [made_take_all] at hM
          have HM : Hid (wr.ownsRow w.heap.size 3 1 (.slice so2 64 sc2) 64 ((dequantL zs xs).map (Value.int .i64))) := hM
          clear hM
          go_wp2
          go_ret
          exact ⟨so2, sc2, by rw [unhide HE]; rfl, by rw [unhide HE]; exact unhide HM, unhide hgk⟩

end Go.Proofs.Ytoeehfjbnbbijab
