/-
  ToneMean, ToneCols, ToneShrink, ToneGrow, GiveSamp.
-/
import Derived.Test.YtkefpjbdkhifhaaMBe

namespace Go.Proofs.Ytkefpjbdkhifhaa
open Go.RowKit

theorem divRound16 (s : Int) (n : Nat) (u : Int) (hs : 0 ≤ s ∧ s ≤ 1000000000000) (hn : 1 ≤ n ∧ n ≤ 1000000000) (hu : Hid (meanI s n = u)) (w : World) :
    Calls Try.prog 90 #[.int .i64 s, .int .i64 (n : Int)] w fun e w' => e = .returned (.int .i64 u) ∧ w = w' := by
  have k1 : IntKind.i64.wrap (2 * s) = 2 * s := i64_in _ (by omega)
  have k2 : IntKind.i64.wrap (2 * s + (n : Int)) = 2 * s + (n : Int) := i64_in _ (by omega)
  have k3 : IntKind.i64.wrap (2 * (n : Int)) = 2 * (n : Int) := i64_in _ (by omega)
  have ht : (2 * s + (n : Int)).tdiv (2 * (n : Int)) = u := by rw [Int.tdiv_eq_ediv_of_nonneg (by omega)]; exact unhide hu
  have hb : 0 ≤ u ∧ u ≤ 2 * s + n := by
    rw [← unhide hu, meanI]
    exact ⟨Int.ediv_nonneg (by omega) (by omega), Int.ediv_le_self _ (by omega)⟩
  have k4 := i64_in u (by omega)
  have z1 : (2 * (n : Int) == 0) = false := beq_eq_false_iff_ne.2 (by omega)
  have z2 : (2 * (n : Int) == -1) = false := beq_eq_false_iff_ne.2 (by omega)
  have z3 : ¬ n = 0 := by omega
  go_enter Try.func90, Try.ntmps90
  go_wp2
  go_ret
  exact ⟨rfl, rfl⟩

set_option maxRecDepth 20000 in
set_option maxHeartbeats 3200000 in
theorem meanOfT (ao : Option Addr) (n cap : Nat) (zs : List Int) (c : Nat) (u : Int) (W : World) (hr : Rd .u16 W ao n zs) (hn : n ≤ 1024) (h0 : ∀ i, 0 ≤ zs.getD i 0 ∧ zs.getD i 0 ≤ 5000000) (hc : 1 ≤ c ∧ c ≤ 10000000) (HU : Hid (meanI zs.sum c = u)) :
    Calls Try.prog 87 #[.slice ao n cap, .int .i64 (c : Int)] W fun e W' => e = .returned (.int .i64 u) ∧ W.grownBy W' none := by
  have HR := hide hr
  have HZ := hide hr.1
  have H0 := hide h0
  clear hr h0
  go_enter Try.func87, Try.ntmps87
  go_wp2
  go_loopw [5, 10] (fun tv iv wr => ∃ (k : Nat) (t : Int), k ≤ n ∧ tv = .int .i64 t ∧ iv = .int .i64 k ∧ Hid ((zs.take k).sum = t) ∧ (0 ≤ t ∧ t ≤ 5000000 * k) ∧ Hid (W.grownBy wr none)) (fun _ iv _ => n - (intOf iv).toNat)
  case atStart => exact ⟨0, 0, by omega, rfl, by go_num, by simp [Hid], by omega, World.grownBy.refl _ _⟩
  case round =>
    obtain ⟨k, t, hk, rfl, rfl, HT, ht, HGW⟩ := hrel
    by_cases hlt : k < n
    · have hkI : (k : Int) < (n : Int) := by omega
      obtain ⟨bb, off, rfl, hc'⟩ := ((unhide HR).grown (unhide HGW)).2 k hlt
      obtain ⟨z, HX⟩ : ∃ z, Hid (zs.getD k 0 = z) := ⟨_, rfl⟩
      have hz := unhide H0 k
      rw [unhide HX] at hc' hz
      have e1 := i64_in z (by omega)
      have e2 := i64_in (t + z) (by omega)
      have e3 := i64_in ((k : Int) + 1) (by omega)
      have HT' : Hid ((zs.take (k + 1)).sum = t + z) := by
        unfold Hid
        have hl : k < zs.length := by rw [unhide HZ]; exact hlt
        rw [List.take_succ_eq_append_getElem hl, List.sum_append, unhide HT]
        have : zs.getD k 0 = zs[k] := by simp [hl]
        rw [← unhide HX, this]
        simp
      go_wp2
      go_roundw
      case rel => exact ⟨k + 1, t + z, by omega, rfl, by go_num, HT', by omega, HGW⟩
      case measure => simp [intOf]; omega
    · obtain rfl : n = k := by omega
      have hT : zs.sum = t := by rw [← unhide HT, ← unhide HZ, List.take_length]
      rw [hT] at HU
      obtain ⟨x, HXX⟩ : ∃ x : Int, Hid (2 * t + (c : Int) = x) := ⟨_, rfl⟩
      obtain ⟨d, HD⟩ : ∃ d : Int, Hid (2 * (c : Int) = d) := ⟨_, rfl⟩
      clear HT hT
      go_wp2_with fail
      refine (divRound16 t c u (by omega) (by omega) HU wr).mono ?_
      rintro e wr ⟨rfl, rfl⟩
      go_wp2
      go_ret
      exact ⟨rfl, unhide HGW⟩

set_option maxRecDepth 20000 in
set_option maxHeartbeats 3200000 in
theorem fillT (q off nw cap gs so ms cps deep : Nat) (X S : List Int) (W : World) (hnw : 1 ≤ nw ∧ nw ≤ 1024) (hms : 1 ≤ ms ∧ ms ≤ 1024) (hdp : 1 ≤ deep ∧ deep ≤ 1024) (hcp : ms ≤ cps)
    (hQ : Blk .u16 73 W q (laidTo X off)) (hfit : off + nw ≤ X.length) (hAt : ∀ x, x < nw → X.getD (off + x) 0 = (meansL S nw deep).getD x 0)
    (hS : Rd .u16 W (some ⟨gs, so, none⟩) ms S) (hne : gs ≠ q) (h0 : ∀ i, 0 ≤ S.getD i 0 ∧ S.getD i 0 ≤ 4095 * deep) :
    Calls Try.prog 73 #[.slice (some ⟨q, off, none⟩) nw cap, .slice (some ⟨gs, so, none⟩) ms cps, .int .i64 (deep : Int)] W fun e W' => (∃ v, e = .returned v) ∧ Blk .u16 73 W' q (laidTo X (off + nw)) ∧ W.grownBy W' (some q) := by
  have HQ := hide hQ
  have HFIT := hide hfit
  have HAT := hide hAt
  have HSR := hide hS
  have HSL := hide hS.1
  have H0 := hide h0
  have HQL : Hid (q < W.heap.size) := hQ.lt
  clear hQ hfit hAt hS h0
  go_enter Try.func73, Try.ntmps73
  go_wp2
  go_loopw [10] (fun cv wr => ∃ (c : Nat), c ≤ nw ∧ cv = .int .i64 c ∧ Hid (Blk .u16 73 wr q (laidTo X (off + c))) ∧ Hid (W.grownBy wr (some q))) (fun cv _ => nw - (intOf cv).toNat)
  case atStart => exact ⟨0, by omega, by go_num, HQ, World.grownBy.refl _ _⟩
  case round =>
    clear HQ
    obtain ⟨c, hc, rfl, HQR, HGR⟩ := hrel
    by_cases hlt : c < nw
    · have hcI : (c : Int) < (nw : Int) := by omega
      have e1 := i64_in ((c : Int) + 1) (by omega)
      obtain ⟨a, HA⟩ : ∃ a, Hid (fromN ms nw c = a) := ⟨_, rfl⟩
      obtain ⟨b, HB⟩ : ∃ b, Hid (toN ms nw c = b) := ⟨_, rfl⟩
      have hab : a < b := by rw [← unhide HA, ← unhide HB]; exact from_to hnw.1 hms.1
      have hbm : b ≤ ms := by rw [← unhide HB]; exact to_le hlt
      obtain ⟨ct, HCT⟩ : ∃ k, Hid (b - a = k) := ⟨_, rfl⟩
      obtain ⟨dc, HDC⟩ : ∃ k : Nat, Hid (deep * ct = k) := ⟨_, rfl⟩
      have hct : 1 ≤ ct ∧ ct ≤ 1024 := by have := unhide HCT; omega
      have hdc : 1 ≤ dc ∧ dc ≤ 1048576 := by
        rw [← unhide HDC]
        exact ⟨Nat.mul_le_mul hdp.1 hct.1, Nat.mul_le_mul hdp.2 hct.2⟩
      obtain ⟨P, HP⟩ : ∃ P, Hid ((S.drop a).take ct = P) := ⟨_, rfl⟩
      have HPL : Hid (P.length = ct) := by unfold Hid; rw [← unhide HP]; have := unhide HSL; have := unhide HCT; simp; omega
      have HPS : Hid (P.sum = sumK S 0 a ct) := by unfold Hid; rw [← unhide HP]; exact sum_take ct (by have := unhide HSL; have := unhide HCT; omega)
      obtain ⟨u, HU⟩ : ∃ u, Hid (meanI P.sum dc = u) := ⟨_, rfl⟩
      have HP0 : Hid (∀ i, 0 ≤ P.getD i 0 ∧ P.getD i 0 ≤ 5000000) := fun i => by
        by_cases hi : i < ct
        · have e : P.getD i 0 = S.getD (a + i) 0 := by rw [← unhide HP]; simp [List.getElem?_take_of_lt hi]
          have := unhide H0 (a + i)
          rw [e]
          have h4 : (4095 : Int) * deep ≤ 4095 * 1024 := Int.mul_le_mul_of_nonneg_left (by omega) (by omega)
          omega
        · have e : P.getD i 0 = 0 := by rw [List.getD_eq_getElem?_getD, List.getElem?_eq_none (by rw [unhide HPL]; omega)]; rfl
          rw [e]
          omega
      have hu : 0 ≤ u ∧ u ≤ 4095 := by
        have h1 := sumK_in (L := S) (at0 := 0) (a := a) (lo := 0) (hi := 4095 * deep) ct (fun j _ => by have := unhide H0 (0 + (a + j)); exact this)
        rw [← unhide HPS] at h1
        rw [← unhide HU]
        refine ⟨mean_ge (by omega) (by rw [Int.mul_zero]; have := h1.1; rw [Int.mul_zero] at this; exact this), mean_le (by omega) ?_⟩
        refine Int.le_trans h1.2 ?_
        rw [← unhide HDC]
        push_cast
        refine Int.le_of_eq ?_
        ac_rfl
      have HVAL : Hid (X.getD (off + c) 0 = u) := by
        unfold Hid
        rw [unhide HAT c hlt, meansL_at S nw deep c hlt, unhide HSL, unhide HA, unhide HB, unhide HCT, unhide HDC, ← unhide HPS, unhide HU]
      have eu := u16_in u (by omega)
      have k1 : IntKind.i64.wrap ((deep : Int) * (ct : Int)) = (dc : Int) := by
        have e : (deep : Int) * (ct : Int) = (dc : Int) := by have := unhide HDC; exact_mod_cast this
        rw [e, i64_in _ (by omega)]
      go_wp2_with fail
      refine (spanOf c nw ms a b hlt hnw.2 hms HA HB wr).mono ?_
      rintro e w1 ⟨rfl, g1⟩
      obtain ⟨W2, hW2⟩ : ∃ W2, w1.alloc (.cells #[.int .i64 (a : Int), .int .i64 (b : Int)] 86) = W2 := ⟨_, rfl⟩
      have G2 : Hid (wr.grownBy W2 none) := by rw [← hW2]; exact grown_alloc g1 _
      have b7 : Hid (W2.heap[w1.heap.size]? = some (.cells #[.int .i64 (a : Int), .int .i64 (b : Int)] 86 (0, 0))) := by rw [← hW2]; exact heap_alloc_new w1 _
      have HW2 := hide hW2
      clear hW2 g1
      go_wp2
      rw [unhide HW2]
      generalize w1.heap.size = s7 at *
      clear HW2
      have i0 : (0 : Int) ≤ (a : Int) := by omega
      have i1 : (a : Int) ≤ (b : Int) := by omega
      have i2 : (b : Int) ≤ (cps : Int) := by omega
      have i3 : ¬ cps = a := by omega
      have j0 : (0 : Int) ≤ (c : Int) := by omega
      refine wp_region_noPanic ?_
      refine wp_region_tailL 20 (fun W => W.heap[s7]? = some (.cells #[.int .i64 (a : Int), .int .i64 (b : Int)] 86 (0, 0))) [true, true, true, true, true, true, true, true, true, true, false, false, false, false, false, false] (by kernel_rfl) (fun _ _ _ _ _ h => h) rfl (by decide) (by kernel_rfl) (unhide b7) ?_
      have b7 : Hid (W2.drew.heap[s7]? = some (.cells #[.int .i64 (a : Int), .int .i64 (b : Int)] 86 (0, 0))) := unhide b7
      have GD : Hid (wr.grownBy W2.drew none) := grown_drew (unhide G2)
      generalize W2.drew = w4 at *
      clear G2
      refine heldF_take (v := ?_) (Or.inl ⟨by rfl, ?_⟩) ?_
      rotate_left 1
      · intro w' hSw
        go_simp
        try with_reducible rfl
      try simp only [Act.put, List.setIfInBounds_toArray, List.set_cons_zero, List.set_cons_succ]
      refine heldF_take (v := ?_) (Or.inl ⟨by rfl, ?_⟩) ?_
      rotate_left 1
      · intro w' hSw
        go_simp
        try with_reducible rfl
      try simp only [Act.put, List.setIfInBounds_toArray, List.set_cons_zero, List.set_cons_succ]
      refine heldF_take (v := ?_) (Or.inl ⟨by rfl, ?_⟩) ?_
      rotate_left 1
      · intro w' hSw
        go_simp
        try with_reducible rfl
      try simp only [Act.put, List.setIfInBounds_toArray, List.set_cons_zero, List.set_cons_succ]
      refine heldF_take (v := ?_) (Or.inl ⟨by rfl, ?_⟩) ?_
      rotate_left 1
      · intro w' hSw
        go_simp
        try with_reducible rfl
      try simp only [Act.put, List.setIfInBounds_toArray, List.set_cons_zero, List.set_cons_succ]
      refine heldF_take (v := ?_) (Or.inl ⟨by rfl, ?_⟩) ?_
      rotate_left 1
      · intro w' hSw
        have ca : w'.cell? ⟨s7, 0, none⟩ = some (.int .i64 (a : Int)) := by rw [cell_of_row w' _ 0 _ _ (0, 0) hSw]; rfl
        have cb : w'.cell? ⟨s7, 1, none⟩ = some (.int .i64 (b : Int)) := by rw [cell_of_row w' _ 1 _ _ (0, 0) hSw]; rfl
        go_simp
        try with_reducible rfl
      try simp only [Act.put, List.setIfInBounds_toArray, List.set_cons_zero, List.set_cons_succ]
      refine heldF_take (v := ?_) (Or.inl ⟨by rfl, ?_⟩) ?_
      rotate_left 1
      · intro w' hSw
        go_simp
        try with_reducible rfl
      try simp only [Act.put, List.setIfInBounds_toArray, List.set_cons_zero, List.set_cons_succ]
      refine heldF_take (v := ?_) (Or.inl ⟨by rfl, ?_⟩) ?_
      rotate_left 1
      · intro w' hSw
        have ca : w'.cell? ⟨s7, 0, none⟩ = some (.int .i64 (a : Int)) := by rw [cell_of_row w' _ 0 _ _ (0, 0) hSw]; rfl
        have cb : w'.cell? ⟨s7, 1, none⟩ = some (.int .i64 (b : Int)) := by rw [cell_of_row w' _ 1 _ _ (0, 0) hSw]; rfl
        go_simp
        try with_reducible rfl
      try simp only [Act.put, List.setIfInBounds_toArray, List.set_cons_zero, List.set_cons_succ]
      refine heldF_take (v := ?_) (Or.inl ⟨by rfl, ?_⟩) ?_
      rotate_left 1
      · intro w' hSw
        go_simp
        try with_reducible rfl
      try simp only [Act.put, List.setIfInBounds_toArray, List.set_cons_zero, List.set_cons_succ]
      refine heldF_take (v := ?_) (Or.inl ⟨by rfl, ?_⟩) ?_
      rotate_left 1
      · intro w' hSw
        go_simp
        try with_reducible rfl
      try simp only [Act.put, List.setIfInBounds_toArray, List.set_cons_zero, List.set_cons_succ]
      refine heldF_take (v := .agg #[.int .i64 (a : Int), .int .i64 (b : Int)]) (Or.inl ⟨by rfl, ?_⟩) ?_
      · intro w' hSw
        exact exec_row 86 _ rfl s7 rfl _ _ hSw _ Try.underlying86 rfl (by kernel_rfl)
      try simp only [Act.put, List.setIfInBounds_toArray, List.set_cons_zero, List.set_cons_succ]
      refine heldF_skip ?_
      refine heldF_skip ?_
      refine heldF_skip ?_
      refine heldF_skip ?_
      refine heldF_skip ?_
      refine heldF_skip ?_
      refine heldF_nil ?_
      refine tailL_skip ?_
      refine tailL_skip ?_
      refine tailL_skip ?_
      refine tailL_skip ?_
      refine tailL_skip ?_
      refine tailL_skip ?_
      refine tailL_skip ?_
      refine tailL_skip ?_
      refine tailL_skip ?_
      refine tailL_skip ?_
      refine tailL_step (fun K hK => ?_)
      go_simp
      refine (spanCount a b ct (by omega) (by omega) HCT w4).mono ?_
      rintro e w5 ⟨rfl, g5⟩
      have S5 : w5.heap[s7]? = _ := grown_atG g5 (unhide b7) (by simp)
      refine hK.out _ _ (.inr S5) ?_
      clear hK K
      try simp only [Act.put, List.setIfInBounds_toArray, List.set_cons_zero, List.set_cons_succ]
      refine tailL_step (fun K hK => ?_)
      go_simp
      refine hK.out _ _ (.inr S5) ?_
      clear hK K
      try simp only [Act.put, List.setIfInBounds_toArray, List.set_cons_zero, List.set_cons_succ]
      refine tailL_step (fun K hK => ?_)
      go_simp
      rw [show b - a = ct from unhide HCT]
      refine (meanOfT (some ⟨gs, so + a, none⟩) ct _ P dc u w5 ?_ hct.2 (unhide HP0) (by omega) HU).mono ?_
      · have hr5 := ((unhide HSR).beside (unhide HGR) (fun _ b' o' e => by simp at e; rw [← e.1]; exact hne)).grown (grown_trans (unhide GD) g5)
        refine ⟨unhide HPL, fun i hi => ⟨gs, so + a, rfl, ?_⟩⟩
        obtain ⟨b', o', e, hcc⟩ := hr5.2 (a + i) (by have := unhide HCT; omega)
        simp only [Option.some.injEq, Addr.mk.injEq, and_true] at e
        obtain ⟨rfl, rfl⟩ := e
        rw [Nat.add_assoc, hcc, ← unhide HP]
        simp [List.getElem?_take_of_lt hi]
      rintro e w6 ⟨rfl, g6⟩
      have S6 : w6.heap[s7]? = _ := grown_atG g6 S5 (by simp)
      refine hK.out _ _ (.inr S6) ?_
      clear hK K
      try simp only [Act.put, List.setIfInBounds_toArray, List.set_cons_zero, List.set_cons_succ]
      refine tailL_step (fun K hK => ?_)
      go_simp
      refine hK.out _ _ (.inr S6) ?_
      clear hK K
      try simp only [Act.put, List.setIfInBounds_toArray, List.set_cons_zero, List.set_cons_succ]
      refine tailL_step (fun K hK => ?_)
      go_simp
      refine hK.out _ _ (.inr S6) ?_
      clear hK K
      try simp only [Act.put, List.setIfInBounds_toArray, List.set_cons_zero, List.set_cons_succ]
      refine tailL_step (fun K hK => ?_)
      have HQ5 : Hid (Blk .u16 73 w6 q (laidTo X (off + c))) := (unhide HQR).grown (grown_trans (unhide GD) (grown_trans g5 g6))
      have cq := (unhide HQ5).cell (off + c) (by rw [laidTo_len X (off + c) (by have := unhide HFIT; omega)]; have := unhide HFIT; omega)
      have fq := (unhide HQ5).frozen (off + c)
      go_simp
      refine hK.out _ _ (.inl rfl) ?_
      clear hK K
      refine tailL_nil (NoPanic.normal ?_)
      try simp only [Act.put]
      have HQ9 : Hid (Blk .u16 73 (w6.setCell ⟨q, off + c, none⟩ (.int .u16 u)) q (laidTo X (off + (c + 1)))) := by
        unfold Hid
        rw [← Nat.add_assoc, ← laidTo_set X (off + c) (by have := unhide HFIT; omega) u (unhide HVAL)]
        exact (unhide HQ5).set (off + c) u
      have HG9 : Hid (W.grownBy (w6.setCell ⟨q, off + c, none⟩ (.int .u16 u)) (some q)) := grown_trans (unhide HGR) (grown_trans (grown_any (grown_trans (unhide GD) (grown_trans g5 g6))) (grown_set w6 q (off + c) (.int .u16 u)))
      go_wp2
      go_roundw
      case rel => exact ⟨c + 1, by omega, by go_num, HQ9, HG9⟩
      case measure => simp [intOf]; omega
    · obtain rfl : nw = c := by omega
      go_wp2
      go_end0
      exact ⟨⟨_, rfl⟩, unhide HQR, unhide HGR⟩

set_option maxRecDepth 20000 in
set_option maxHeartbeats 3200000 in
theorem meanOfI (ao : Option Addr) (n cap : Nat) (zs : List Int) (c : Nat) (u : Int) (W : World) (hr : Rd .i64 W ao n zs) (hn : n ≤ 1024) (h0 : ∀ i, 0 ≤ zs.getD i 0 ∧ zs.getD i 0 ≤ 5000000) (hc : 1 ≤ c ∧ c ≤ 10000000) (HU : Hid (meanI zs.sum c = u)) :
    Calls Try.prog 89 #[.slice ao n cap, .int .i64 (c : Int)] W fun e W' => e = .returned (.int .i64 u) ∧ W.grownBy W' none := by
  have HR := hide hr
  have HZ := hide hr.1
  have H0 := hide h0
  clear hr h0
  go_enter Try.func89, Try.ntmps89
  go_wp2
  go_loopw [5, 10] (fun tv iv wr => ∃ (k : Nat) (t : Int), k ≤ n ∧ tv = .int .i64 t ∧ iv = .int .i64 k ∧ Hid ((zs.take k).sum = t) ∧ (0 ≤ t ∧ t ≤ 5000000 * k) ∧ Hid (W.grownBy wr none)) (fun _ iv _ => n - (intOf iv).toNat)
  case atStart => exact ⟨0, 0, by omega, rfl, by go_num, by simp [Hid], by omega, World.grownBy.refl _ _⟩
  case round =>
    obtain ⟨k, t, hk, rfl, rfl, HT, ht, HGW⟩ := hrel
    by_cases hlt : k < n
    · have hkI : (k : Int) < (n : Int) := by omega
      obtain ⟨bb, off, rfl, hc'⟩ := ((unhide HR).grown (unhide HGW)).2 k hlt
      obtain ⟨z, HX⟩ : ∃ z, Hid (zs.getD k 0 = z) := ⟨_, rfl⟩
      have hz := unhide H0 k
      rw [unhide HX] at hc' hz
      have e1 := i64_in z (by omega)
      have e2 := i64_in (t + z) (by omega)
      have e3 := i64_in ((k : Int) + 1) (by omega)
      have HT' : Hid ((zs.take (k + 1)).sum = t + z) := by
        unfold Hid
        have hl : k < zs.length := by rw [unhide HZ]; exact hlt
        rw [List.take_succ_eq_append_getElem hl, List.sum_append, unhide HT]
        have : zs.getD k 0 = zs[k] := by simp [hl]
        rw [← unhide HX, this]
        simp
      go_wp2
      go_roundw
      case rel => exact ⟨k + 1, t + z, by omega, rfl, by go_num, HT', by omega, HGW⟩
      case measure => simp [intOf]; omega
    · obtain rfl : n = k := by omega
      have hT : zs.sum = t := by rw [← unhide HT, ← unhide HZ, List.take_length]
      rw [hT] at HU
      obtain ⟨x, HXX⟩ : ∃ x : Int, Hid (2 * t + (c : Int) = x) := ⟨_, rfl⟩
      obtain ⟨d, HD⟩ : ∃ d : Int, Hid (2 * (c : Int) = d) := ⟨_, rfl⟩
      clear HT hT
      go_wp2_with fail
      refine (divRound16 t c u (by omega) (by omega) HU wr).mono ?_
      rintro e wr ⟨rfl, rfl⟩
      go_wp2
      go_ret
      exact ⟨rfl, unhide HGW⟩

set_option maxRecDepth 20000 in
set_option maxHeartbeats 3200000 in
theorem fillI (q off nw cap gs so ms cps deep : Nat) (X S : List Int) (W : World) (hnw : 1 ≤ nw ∧ nw ≤ 1024) (hms : 1 ≤ ms ∧ ms ≤ 1024) (hdp : 1 ≤ deep ∧ deep ≤ 1024) (hcp : ms ≤ cps)
    (hQ : Blk .u16 73 W q (laidTo X off)) (hfit : off + nw ≤ X.length) (hAt : ∀ x, x < nw → X.getD (off + x) 0 = (meansL S nw deep).getD x 0)
    (hS : Rd .i64 W (some ⟨gs, so, none⟩) ms S) (hne : gs ≠ q) (h0 : ∀ i, 0 ≤ S.getD i 0 ∧ S.getD i 0 ≤ 4095 * deep) :
    Calls Try.prog 75 #[.slice (some ⟨q, off, none⟩) nw cap, .slice (some ⟨gs, so, none⟩) ms cps, .int .i64 (deep : Int)] W fun e W' => (∃ v, e = .returned v) ∧ Blk .u16 73 W' q (laidTo X (off + nw)) ∧ W.grownBy W' (some q) := by
  have HQ := hide hQ
  have HFIT := hide hfit
  have HAT := hide hAt
  have HSR := hide hS
  have HSL := hide hS.1
  have H0 := hide h0
  have HQL : Hid (q < W.heap.size) := hQ.lt
  clear hQ hfit hAt hS h0
  go_enter Try.func75, Try.ntmps75
  go_wp2
  go_loopw [10] (fun cv wr => ∃ (c : Nat), c ≤ nw ∧ cv = .int .i64 c ∧ Hid (Blk .u16 73 wr q (laidTo X (off + c))) ∧ Hid (W.grownBy wr (some q))) (fun cv _ => nw - (intOf cv).toNat)
  case atStart => exact ⟨0, by omega, by go_num, HQ, World.grownBy.refl _ _⟩
  case round =>
    clear HQ
    obtain ⟨c, hc, rfl, HQR, HGR⟩ := hrel
    by_cases hlt : c < nw
    · have hcI : (c : Int) < (nw : Int) := by omega
      have e1 := i64_in ((c : Int) + 1) (by omega)
      obtain ⟨a, HA⟩ : ∃ a, Hid (fromN ms nw c = a) := ⟨_, rfl⟩
      obtain ⟨b, HB⟩ : ∃ b, Hid (toN ms nw c = b) := ⟨_, rfl⟩
      have hab : a < b := by rw [← unhide HA, ← unhide HB]; exact from_to hnw.1 hms.1
      have hbm : b ≤ ms := by rw [← unhide HB]; exact to_le hlt
      obtain ⟨ct, HCT⟩ : ∃ k, Hid (b - a = k) := ⟨_, rfl⟩
      obtain ⟨dc, HDC⟩ : ∃ k : Nat, Hid (deep * ct = k) := ⟨_, rfl⟩
      have hct : 1 ≤ ct ∧ ct ≤ 1024 := by have := unhide HCT; omega
      have hdc : 1 ≤ dc ∧ dc ≤ 1048576 := by
        rw [← unhide HDC]
        exact ⟨Nat.mul_le_mul hdp.1 hct.1, Nat.mul_le_mul hdp.2 hct.2⟩
      obtain ⟨P, HP⟩ : ∃ P, Hid ((S.drop a).take ct = P) := ⟨_, rfl⟩
      have HPL : Hid (P.length = ct) := by unfold Hid; rw [← unhide HP]; have := unhide HSL; have := unhide HCT; simp; omega
      have HPS : Hid (P.sum = sumK S 0 a ct) := by unfold Hid; rw [← unhide HP]; exact sum_take ct (by have := unhide HSL; have := unhide HCT; omega)
      obtain ⟨u, HU⟩ : ∃ u, Hid (meanI P.sum dc = u) := ⟨_, rfl⟩
      have HP0 : Hid (∀ i, 0 ≤ P.getD i 0 ∧ P.getD i 0 ≤ 5000000) := fun i => by
        by_cases hi : i < ct
        · have e : P.getD i 0 = S.getD (a + i) 0 := by rw [← unhide HP]; simp [List.getElem?_take_of_lt hi]
          have := unhide H0 (a + i)
          rw [e]
          have h4 : (4095 : Int) * deep ≤ 4095 * 1024 := Int.mul_le_mul_of_nonneg_left (by omega) (by omega)
          omega
        · have e : P.getD i 0 = 0 := by rw [List.getD_eq_getElem?_getD, List.getElem?_eq_none (by rw [unhide HPL]; omega)]; rfl
          rw [e]
          omega
      have hu : 0 ≤ u ∧ u ≤ 4095 := by
        have h1 := sumK_in (L := S) (at0 := 0) (a := a) (lo := 0) (hi := 4095 * deep) ct (fun j _ => by have := unhide H0 (0 + (a + j)); exact this)
        rw [← unhide HPS] at h1
        rw [← unhide HU]
        refine ⟨mean_ge (by omega) (by rw [Int.mul_zero]; have := h1.1; rw [Int.mul_zero] at this; exact this), mean_le (by omega) ?_⟩
        refine Int.le_trans h1.2 ?_
        rw [← unhide HDC]
        push_cast
        refine Int.le_of_eq ?_
        ac_rfl
      have HVAL : Hid (X.getD (off + c) 0 = u) := by
        unfold Hid
        rw [unhide HAT c hlt, meansL_at S nw deep c hlt, unhide HSL, unhide HA, unhide HB, unhide HCT, unhide HDC, ← unhide HPS, unhide HU]
      have eu := u16_in u (by omega)
      have k1 : IntKind.i64.wrap ((deep : Int) * (ct : Int)) = (dc : Int) := by
        have e : (deep : Int) * (ct : Int) = (dc : Int) := by have := unhide HDC; exact_mod_cast this
        rw [e, i64_in _ (by omega)]
      go_wp2_with fail
      refine (spanOf c nw ms a b hlt hnw.2 hms HA HB wr).mono ?_
      rintro e w1 ⟨rfl, g1⟩
      obtain ⟨W2, hW2⟩ : ∃ W2, w1.alloc (.cells #[.int .i64 (a : Int), .int .i64 (b : Int)] 86) = W2 := ⟨_, rfl⟩
      have G2 : Hid (wr.grownBy W2 none) := by rw [← hW2]; exact grown_alloc g1 _
      have b7 : Hid (W2.heap[w1.heap.size]? = some (.cells #[.int .i64 (a : Int), .int .i64 (b : Int)] 86 (0, 0))) := by rw [← hW2]; exact heap_alloc_new w1 _
      have HW2 := hide hW2
      clear hW2 g1
      go_wp2
      rw [unhide HW2]
      generalize w1.heap.size = s7 at *
      clear HW2
      have i0 : (0 : Int) ≤ (a : Int) := by omega
      have i1 : (a : Int) ≤ (b : Int) := by omega
      have i2 : (b : Int) ≤ (cps : Int) := by omega
      have i3 : ¬ cps = a := by omega
      have j0 : (0 : Int) ≤ (c : Int) := by omega
      refine wp_region_noPanic ?_
      refine wp_region_tailL 20 (fun W => W.heap[s7]? = some (.cells #[.int .i64 (a : Int), .int .i64 (b : Int)] 86 (0, 0))) [true, true, true, true, true, true, true, true, true, true, false, false, false, false, false, false] (by kernel_rfl) (fun _ _ _ _ _ h => h) rfl (by decide) (by kernel_rfl) (unhide b7) ?_
      have b7 : Hid (W2.drew.heap[s7]? = some (.cells #[.int .i64 (a : Int), .int .i64 (b : Int)] 86 (0, 0))) := unhide b7
      have GD : Hid (wr.grownBy W2.drew none) := grown_drew (unhide G2)
      generalize W2.drew = w4 at *
      clear G2
      refine heldF_take (v := ?_) (Or.inl ⟨by rfl, ?_⟩) ?_
      rotate_left 1
      · intro w' hSw
        go_simp
        try with_reducible rfl
      try simp only [Act.put, List.setIfInBounds_toArray, List.set_cons_zero, List.set_cons_succ]
      refine heldF_take (v := ?_) (Or.inl ⟨by rfl, ?_⟩) ?_
      rotate_left 1
      · intro w' hSw
        go_simp
        try with_reducible rfl
      try simp only [Act.put, List.setIfInBounds_toArray, List.set_cons_zero, List.set_cons_succ]
      refine heldF_take (v := ?_) (Or.inl ⟨by rfl, ?_⟩) ?_
      rotate_left 1
      · intro w' hSw
        go_simp
        try with_reducible rfl
      try simp only [Act.put, List.setIfInBounds_toArray, List.set_cons_zero, List.set_cons_succ]
      refine heldF_take (v := ?_) (Or.inl ⟨by rfl, ?_⟩) ?_
      rotate_left 1
      · intro w' hSw
        go_simp
        try with_reducible rfl
      try simp only [Act.put, List.setIfInBounds_toArray, List.set_cons_zero, List.set_cons_succ]
      refine heldF_take (v := ?_) (Or.inl ⟨by rfl, ?_⟩) ?_
      rotate_left 1
      · intro w' hSw
        have ca : w'.cell? ⟨s7, 0, none⟩ = some (.int .i64 (a : Int)) := by rw [cell_of_row w' _ 0 _ _ (0, 0) hSw]; rfl
        have cb : w'.cell? ⟨s7, 1, none⟩ = some (.int .i64 (b : Int)) := by rw [cell_of_row w' _ 1 _ _ (0, 0) hSw]; rfl
        go_simp
        try with_reducible rfl
      try simp only [Act.put, List.setIfInBounds_toArray, List.set_cons_zero, List.set_cons_succ]
      refine heldF_take (v := ?_) (Or.inl ⟨by rfl, ?_⟩) ?_
      rotate_left 1
      · intro w' hSw
        go_simp
        try with_reducible rfl
      try simp only [Act.put, List.setIfInBounds_toArray, List.set_cons_zero, List.set_cons_succ]
      refine heldF_take (v := ?_) (Or.inl ⟨by rfl, ?_⟩) ?_
      rotate_left 1
      · intro w' hSw
        have ca : w'.cell? ⟨s7, 0, none⟩ = some (.int .i64 (a : Int)) := by rw [cell_of_row w' _ 0 _ _ (0, 0) hSw]; rfl
        have cb : w'.cell? ⟨s7, 1, none⟩ = some (.int .i64 (b : Int)) := by rw [cell_of_row w' _ 1 _ _ (0, 0) hSw]; rfl
        go_simp
        try with_reducible rfl
      try simp only [Act.put, List.setIfInBounds_toArray, List.set_cons_zero, List.set_cons_succ]
      refine heldF_take (v := ?_) (Or.inl ⟨by rfl, ?_⟩) ?_
      rotate_left 1
      · intro w' hSw
        go_simp
        try with_reducible rfl
      try simp only [Act.put, List.setIfInBounds_toArray, List.set_cons_zero, List.set_cons_succ]
      refine heldF_take (v := ?_) (Or.inl ⟨by rfl, ?_⟩) ?_
      rotate_left 1
      · intro w' hSw
        go_simp
        try with_reducible rfl
      try simp only [Act.put, List.setIfInBounds_toArray, List.set_cons_zero, List.set_cons_succ]
      refine heldF_take (v := .agg #[.int .i64 (a : Int), .int .i64 (b : Int)]) (Or.inl ⟨by rfl, ?_⟩) ?_
      · intro w' hSw
        exact exec_row 86 _ rfl s7 rfl _ _ hSw _ Try.underlying86 rfl (by kernel_rfl)
      try simp only [Act.put, List.setIfInBounds_toArray, List.set_cons_zero, List.set_cons_succ]
      refine heldF_skip ?_
      refine heldF_skip ?_
      refine heldF_skip ?_
      refine heldF_skip ?_
      refine heldF_skip ?_
      refine heldF_skip ?_
      refine heldF_nil ?_
      refine tailL_skip ?_
      refine tailL_skip ?_
      refine tailL_skip ?_
      refine tailL_skip ?_
      refine tailL_skip ?_
      refine tailL_skip ?_
      refine tailL_skip ?_
      refine tailL_skip ?_
      refine tailL_skip ?_
      refine tailL_skip ?_
      refine tailL_step (fun K hK => ?_)
      go_simp
      refine (spanCount a b ct (by omega) (by omega) HCT w4).mono ?_
      rintro e w5 ⟨rfl, g5⟩
      have S5 : w5.heap[s7]? = _ := grown_atG g5 (unhide b7) (by simp)
      refine hK.out _ _ (.inr S5) ?_
      clear hK K
      try simp only [Act.put, List.setIfInBounds_toArray, List.set_cons_zero, List.set_cons_succ]
      refine tailL_step (fun K hK => ?_)
      go_simp
      refine hK.out _ _ (.inr S5) ?_
      clear hK K
      try simp only [Act.put, List.setIfInBounds_toArray, List.set_cons_zero, List.set_cons_succ]
      refine tailL_step (fun K hK => ?_)
      go_simp
      rw [show b - a = ct from unhide HCT]
      refine (meanOfI (some ⟨gs, so + a, none⟩) ct _ P dc u w5 ?_ hct.2 (unhide HP0) (by omega) HU).mono ?_
      · have hr5 := ((unhide HSR).beside (unhide HGR) (fun _ b' o' e => by simp at e; rw [← e.1]; exact hne)).grown (grown_trans (unhide GD) g5)
        refine ⟨unhide HPL, fun i hi => ⟨gs, so + a, rfl, ?_⟩⟩
        obtain ⟨b', o', e, hcc⟩ := hr5.2 (a + i) (by have := unhide HCT; omega)
        simp only [Option.some.injEq, Addr.mk.injEq, and_true] at e
        obtain ⟨rfl, rfl⟩ := e
        rw [Nat.add_assoc, hcc, ← unhide HP]
        simp [List.getElem?_take_of_lt hi]
      rintro e w6 ⟨rfl, g6⟩
      have S6 : w6.heap[s7]? = _ := grown_atG g6 S5 (by simp)
      refine hK.out _ _ (.inr S6) ?_
      clear hK K
      try simp only [Act.put, List.setIfInBounds_toArray, List.set_cons_zero, List.set_cons_succ]
      refine tailL_step (fun K hK => ?_)
      go_simp
      refine hK.out _ _ (.inr S6) ?_
      clear hK K
      try simp only [Act.put, List.setIfInBounds_toArray, List.set_cons_zero, List.set_cons_succ]
      refine tailL_step (fun K hK => ?_)
      go_simp
      refine hK.out _ _ (.inr S6) ?_
      clear hK K
      try simp only [Act.put, List.setIfInBounds_toArray, List.set_cons_zero, List.set_cons_succ]
      refine tailL_step (fun K hK => ?_)
      have HQ5 : Hid (Blk .u16 73 w6 q (laidTo X (off + c))) := (unhide HQR).grown (grown_trans (unhide GD) (grown_trans g5 g6))
      have cq := (unhide HQ5).cell (off + c) (by rw [laidTo_len X (off + c) (by have := unhide HFIT; omega)]; have := unhide HFIT; omega)
      have fq := (unhide HQ5).frozen (off + c)
      go_simp
      refine hK.out _ _ (.inl rfl) ?_
      clear hK K
      refine tailL_nil (NoPanic.normal ?_)
      try simp only [Act.put]
      have HQ9 : Hid (Blk .u16 73 (w6.setCell ⟨q, off + c, none⟩ (.int .u16 u)) q (laidTo X (off + (c + 1)))) := by
        unfold Hid
        rw [← Nat.add_assoc, ← laidTo_set X (off + c) (by have := unhide HFIT; omega) u (unhide HVAL)]
        exact (unhide HQ5).set (off + c) u
      have HG9 : Hid (W.grownBy (w6.setCell ⟨q, off + c, none⟩ (.int .u16 u)) (some q)) := grown_trans (unhide HGR) (grown_trans (grown_any (grown_trans (unhide GD) (grown_trans g5 g6))) (grown_set w6 q (off + c) (.int .u16 u)))
      go_wp2
      go_roundw
      case rel => exact ⟨c + 1, by omega, by go_num, HQ9, HG9⟩
      case measure => simp [intOf]; omega
    · obtain rfl : nw = c := by omega
      go_wp2
      go_end0
      exact ⟨⟨_, rfl⟩, unhide HQR, unhide HGR⟩

end Go.Proofs.Ytkefpjbdkhifhaa

namespace Go.Proofs.Ytkefpjbdkhifhaa
open Go.RowKit

/-- Columns' sums while a row is added: the first c columns have it. -/
def colsMix (L : List Int) (w r0 R c : Nat) : List Int := (List.range w).map fun x => colS L w r0 x (if x < c then R + 1 else R)
theorem colsMix_zero (L : List Int) (w r0 R : Nat) : colsMix L w r0 R 0 = colsL L w r0 R := by simp [colsMix, colsL]
theorem colsMix_len (L : List Int) (w r0 R c : Nat) : (colsMix L w r0 R c).length = w := by simp [colsMix]
theorem colsMix_at (L : List Int) (w r0 R c : Nat) (hc : c < w) : (colsMix L w r0 R c).getD c 0 = colS L w r0 c R := by simp [colsMix, hc]
theorem colsMix_all (L : List Int) (w r0 R : Nat) : colsMix L w r0 R w = colsL L w r0 (R + 1) := by
  unfold colsMix colsL
  refine List.map_congr_left (fun x hx => ?_)
  rw [if_pos (List.mem_range.1 hx)]
theorem colsMix_set (L : List Int) (w r0 R c : Nat) (z : Int) (hz : colS L w r0 c R + L.getD ((r0 + R) * w + c) 0 = z) : (colsMix L w r0 R c).set c z = colsMix L w r0 R (c + 1) := by
  subst hz
  refine List.ext_getElem (by simp [colsMix]) (fun i h1 h2 => ?_)
  rw [List.getElem_set]
  have hi : i < w := by simpa [colsMix] using h2
  by_cases e : c = i
  · subst e
    simp [colsMix, colS]
  · rw [if_neg e]
    simp only [colsMix, List.getElem_map, List.getElem_range]
    by_cases h : i < c
    · rw [if_pos h, if_pos (by omega)]
    · rw [if_neg h, if_neg (by omega)]

set_option maxRecDepth 20000 in
set_option maxHeartbeats 3200000 in
theorem columnSums (wd ht g n r0 r1 R : Nat) (L : List Int) (W : World) (hw : 1 ≤ wd ∧ wd ≤ 1024) (hh : ht ≤ 1024) (HN : Hid (wd * ht = n)) (hr : r0 ≤ r1 ∧ r1 ≤ ht) (HR : Hid (r1 - r0 = R)) (hB : Blk .u16 73 W g L) (hL : L.length = n) (h0 : ∀ i, 0 ≤ L.getD i 0 ∧ L.getD i 0 ≤ 4095) :
    Calls Try.prog 76 #[.agg #[.int .i64 (wd : Int), .int .i64 (ht : Int), .slice (some ⟨g, 0, none⟩) n n], .agg #[.int .i64 (r0 : Int), .int .i64 (r1 : Int)]] W fun e W' => ∃ gs, e = .returned (.slice (some ⟨gs, 0, none⟩) wd wd) ∧ Blk .i64 3 W' gs (colsL L wd r0 R) ∧ W.heap.size ≤ gs ∧ W.grownBy W' none := by
  have HL := hide hL
  have H0 := hide h0
  have HGL : Hid (g < W.heap.size) := hB.lt
  obtain ⟨i0, hi, hz0, hz1, hz2⟩ := info_parts info_iS
  have HI := hide hi
  have HZ0 := hide hz0
  have HZ1 := hide hz1
  have HZ2 := hide hz2
  obtain ⟨W0, hW0⟩ : ∃ W0, (W.alloc (.cells #[.int .i64 (wd : Int), .int .i64 (ht : Int), .slice (some ⟨g, 0, none⟩) n n] 57)).alloc (.cells #[.int .i64 (r0 : Int), .int .i64 (r1 : Int)] 86) = W0 := ⟨_, rfl⟩
  have HG0 : Hid (W.grownBy W0 none) := by rw [← hW0]; exact grown_alloc (World.grownBy_alloc _ _ _) _
  have b0 : Hid (W0.heap[W.heap.size]? = some (.cells #[.int .i64 (wd : Int), .int .i64 (ht : Int), .slice (some ⟨g, 0, none⟩) n n] 57 (0, 0))) := by rw [← hW0, Below.heap_alloc _ _ _ (by simp)]; exact heap_alloc_new W _
  have b1 : Hid (W0.heap[W.heap.size + 1]? = some (.cells #[.int .i64 (r0 : Int), .int .i64 (r1 : Int)] 86 (0, 0))) := by
    rw [← hW0]
    have := heap_alloc_new (W.alloc (.cells #[.int .i64 (wd : Int), .int .i64 (ht : Int), .slice (some ⟨g, 0, none⟩) n n] 57)) (.cells #[.int .i64 (r0 : Int), .int .i64 (r1 : Int)] 86)
    unfold Hid
    simpa using this
  have HS0 : Hid (W0.heap.size = W.heap.size + 2) := by rw [← hW0]; simp [Hid]
  have HB0 := hide (hB.grown (unhide HG0))
  have HW := hide hW0
  clear hW0 hB hL h0 hi hz0 hz1 hz2
  generalize hs : W.heap.size = s at *
  have HS := hide hs
  go_enter Try.func76, Try.ntmps76
  have HWR : Hid (((W.alloc (.cells #[.int .i64 (wd : Int), .int .i64 (ht : Int), .slice (some ⟨g, 0, none⟩) n n] 57)).alloc (.cells #[.int .i64 (r0 : Int), .int .i64 (r1 : Int)] 86)) = W0) := HW
  go_wp2_with (at_make; refine wpList_make_full _ rfl _ _ 24 rfl s 3 i0 (.int .i64 0) 1 Try.underlying24 (unhide HI) (unhide HZ0) (unhide HZ1) .i64 .i64 _ _ wd rfl rfl rfl rfl (by rw [unhide HZ2]; omega) (by unfold maxLen; omega) (by simp; omega) ?_)
  rw [unhide HWR]
  intro w2 hown g2
  have HC2 : Hid (Blk .i64 3 w2 (s + 1 + 1) (List.replicate wd 0)) := Blk.made (by rw [Nat.mul_one]; exact hown)
  have G2 := hide g2
  clear hown g2 HW HWR hs
  generalize hgs : s + 1 + 1 = gs at *
  have HGS : Hid (gs = s + 2) := by unfold Hid; omega
  have c0 : W0.cell? ⟨s + 1, 0, none⟩ = some (.int .i64 (r0 : Int)) := by rw [cell_of_row W0 _ 0 _ _ (0, 0) (unhide b1)]; rfl
  have c1 : W0.cell? ⟨s + 1, 1, none⟩ = some (.int .i64 (r1 : Int)) := by rw [cell_of_row W0 _ 1 _ _ (0, 0) (unhide b1)]; rfl
  have d0 := (unhide G2).cell c0 (by simp)
  have d1 := (unhide G2).cell c1 (by simp)
  have HSTART : Hid (Blk .i64 3 w2 gs (colsL L wd r0 0)) := by rw [colsL_zero]; exact unhide HC2
  clear HC2 hgs
  go_wp2
  go_loopw [6] (fun rv wr => ∃ (j : Nat), j ≤ R ∧ rv = .int .i64 ((r0 + j : Nat) : Int) ∧ Hid (Blk .i64 3 wr gs (colsL L wd r0 j)) ∧ Hid (w2.grownBy wr (some gs))) (fun rv _ => r1 - (intOf rv).toNat)
  case atStart => exact ⟨0, by omega, by simp, HSTART, World.grownBy.refl _ _⟩
  case round =>
    clear HSTART
    obtain ⟨j, hj, rfl, HQR, HGR⟩ := hrel
    have y1 := grown_atG (unhide HGR) (grown_atG (unhide G2) (unhide b1) (by simp)) (by have := unhide HGS; simp; omega)
    have cy : wr.cell? ⟨s + 1, 1, none⟩ = some (.int .i64 (r1 : Int)) := by rw [cell_of_row wr _ 1 _ _ (0, 0) y1]; rfl
    obtain ⟨rr, HRR⟩ : ∃ x : Nat, Hid (r0 + j = x) := ⟨_, rfl⟩
    rw [unhide HRR]
    clear y1
    by_cases hlt : rr < r1
    · have hrI : (rr : Int) < (r1 : Int) := by omega
      have e1 := i64_in ((rr : Int) + 1) (by omega)
      obtain ⟨lo, HLO⟩ : ∃ lo : Nat, Hid (rr * wd = lo) := ⟨_, rfl⟩
      have hlx := row_end (w := wd) (show rr < ht by omega)
      rw [Nat.mul_comm ht wd, unhide HLO, unhide HN] at hlx
      have y0 := grown_atG (unhide HGR) (grown_atG (unhide G2) (unhide b0) (by simp)) (by have := unhide HGS; simp; omega)
      have x0 : wr.cell? ⟨s, 0, none⟩ = some (.int .i64 (wd : Int)) := by rw [cell_of_row wr _ 0 _ _ (0, 0) y0]; rfl
      have x1 : wr.cell? ⟨s, 1, none⟩ = some (.int .i64 (ht : Int)) := by rw [cell_of_row wr _ 1 _ _ (0, 0) y0]; rfl
      have x2 : wr.cell? ⟨s, 2, none⟩ = some (.slice (some ⟨g, 0, none⟩) n n) := by rw [cell_of_row wr _ 2 _ _ (0, 0) y0]; rfl
      clear y0
      go_wp2_with fail
      refine (toneRow wd ht g n rr lo hw hh (by omega) HN HLO wr).mono ?_
      rintro e w4 ⟨rfl, g4⟩
      have HQ4 : Hid (Blk .i64 3 w4 gs (colsMix L wd r0 j 0)) := by rw [colsMix_zero]; exact (unhide HQR).grown g4
      have HG4 := hide (grown_trans (unhide HGR) (grown_any g4))
      clear g4 x0 x1 x2 cy
      go_wp2
      go_loopw [27] (fun cv wx => ∃ (c : Nat), c ≤ wd ∧ cv = .int .i64 c ∧ Hid (Blk .i64 3 wx gs (colsMix L wd r0 j c)) ∧ Hid (w2.grownBy wx (some gs))) (fun cv _ => wd - (intOf cv).toNat)
      case atStart => exact ⟨0, by omega, by go_num, HQ4, HG4⟩
      case round =>
        clear HQ4 HG4 HQR HGR
        obtain ⟨c, hc, rfl, HQX, HGX⟩ := hrel
        by_cases hcl : c < wd
        · have hcI : (c : Int) < (wd : Int) := by omega
          have f1 := i64_in ((c : Int) + 1) (by omega)
          obtain ⟨z, HZ⟩ : ∃ z, Hid (L.getD (lo + c) 0 = z) := ⟨_, rfl⟩
          obtain ⟨v, HV⟩ : ∃ v, Hid (colS L wd r0 c j = v) := ⟨_, rfl⟩
          have hz := unhide H0 (lo + c)
          have hv := colS_in (w := wd) (r0 := r0) (x := c) (unhide H0) j
          rw [unhide HZ] at hz
          rw [unhide HV] at hv
          have hjR : j ≤ 1024 := by have := unhide HR; omega
          have HBX := ((unhide HB0).grown (unhide G2)).beside (unhide HGX) (by have := unhide HGL; have := unhide HGS; simp; omega)
          have ck := HBX.cell (lo + c) (by have := unhide HL; omega)
          rw [unhide HZ] at ck
          have cq := (unhide HQX).cell c (by rw [colsMix_len]; exact hcl)
          rw [colsMix_at _ _ _ _ _ hcl, unhide HV] at cq
          have fq := (unhide HQX).frozen c
          have f2 := i64_in z (by omega)
          have f3 := i64_in (v + z) (by omega)
          have HQ' : Hid (Blk .i64 3 (wr.setCell ⟨gs, c, none⟩ (.int .i64 (v + z))) gs (colsMix L wd r0 j (c + 1))) := by
            unfold Hid
            rw [← colsMix_set L wd r0 j c (v + z) (by rw [unhide HV, unhide HRR, unhide HLO, unhide HZ])]
            exact (unhide HQX).set c (v + z)
          have HG' := hide (grown_trans (unhide HGX) (grown_set wr gs c (.int .i64 (v + z))))
          clear HBX hv hz
          go_wp2
          go_roundw
          case rel => exact ⟨c + 1, by omega, by go_num, HQ', HG'⟩
          case measure => simp [intOf]; omega
        · obtain rfl : wd = c := by omega
          have hcd : decide ((wd : Int) < (wd : Int)) = false := decide_eq_false (by omega)
          have HQN : Hid (Blk .i64 3 wr gs (colsL L wd r0 (j + 1))) := by rw [← colsMix_all]; exact unhide HQX
          have hrn : ((rr : Int) + 1) = ((r0 + (j + 1) : Nat) : Int) := by have := unhide HRR; omega
          have HRN := hide hrn
          clear hrn
          go_wp2
          go_roundw
          case rel => exact ⟨j + 1, by have := unhide HR; have := unhide HRR; omega, by rw [unhide HRN], HQN, HGX⟩
          case measure => simp [intOf]; omega
    · have hjR : j = R := by have := unhide HR; have := unhide HRR; omega
      have hrd : decide ((rr : Int) < (r1 : Int)) = false := decide_eq_false (by omega)
      rw [hjR] at HQR
      clear hjR
      go_wp2
      go_ret
      refine ⟨gs, rfl, unhide HQR, by have := unhide HGS; omega, ?_⟩
      exact grown_new (grown_trans (unhide HG0) (unhide G2)) (unhide HGR) (fun k e => by simp at e; have := unhide HGS; have := unhide HS; omega)

end Go.Proofs.Ytkefpjbdkhifhaa

namespace Go.Proofs.Ytkefpjbdkhifhaa
open Go.RowKit

set_option maxRecDepth 20000 in
set_option maxHeartbeats 6400000 in
theorem shrunk : TurnC 46 (fun wd ht nw nh => nw ≤ wd ∧ nh ≤ ht) (fun L wd ht nw nh => shrinkL L wd ht nw nh) := by
  intro wd ht g n nw nh m L W hw hh HN hn hnw hnh HM hm hok hB hL h0
  have HL := hide hL
  have H0 := hide h0
  have HOK := hide hok
  have HGL : Hid (g < W.heap.size) := hB.lt
  obtain ⟨W0, hW0⟩ : ∃ W0, ((W.alloc (.cells #[.int .i64 (wd : Int), .int .i64 (ht : Int), .slice (some ⟨g, 0, none⟩) n n] 57)).alloc (.cells #[.int .i64 (nw : Int), .int .i64 (nh : Int)] 48)).alloc (.cells #[.int .i64 0, .int .i64 0, .slice none 0 0] 57) = W0 := ⟨_, rfl⟩
  have HG0 : Hid (W.grownBy W0 none) := by rw [← hW0]; exact grown_alloc (grown_alloc (World.grownBy_alloc _ _ _) _) _
  have b0 : Hid (W0.heap[W.heap.size]? = some (.cells #[.int .i64 (wd : Int), .int .i64 (ht : Int), .slice (some ⟨g, 0, none⟩) n n] 57 (0, 0))) := by rw [← hW0, Below.heap_alloc _ _ _ (by simp <;> omega), Below.heap_alloc _ _ _ (by simp)]; exact heap_alloc_new W _
  have b1 : Hid (W0.heap[W.heap.size + 1]? = some (.cells #[.int .i64 (nw : Int), .int .i64 (nh : Int)] 48 (0, 0))) := by
    rw [← hW0, Below.heap_alloc _ _ _ (by simp)]
    have := heap_alloc_new (W.alloc (.cells #[.int .i64 (wd : Int), .int .i64 (ht : Int), .slice (some ⟨g, 0, none⟩) n n] 57)) (.cells #[.int .i64 (nw : Int), .int .i64 (nh : Int)] 48)
    unfold Hid
    simpa using this
  have b2 : Hid (W0.heap[W.heap.size + 1 + 1]? = some (.cells #[.int .i64 0, .int .i64 0, .slice none 0 0] 57 (0, 0))) := by
    rw [← hW0]
    have := heap_alloc_new ((W.alloc (.cells #[.int .i64 (wd : Int), .int .i64 (ht : Int), .slice (some ⟨g, 0, none⟩) n n] 57)).alloc (.cells #[.int .i64 (nw : Int), .int .i64 (nh : Int)] 48)) (.cells #[.int .i64 0, .int .i64 0, .slice none 0 0] 57)
    unfold Hid
    simpa using this
  have HS0 : Hid (W0.heap.size = W.heap.size + 3) := by rw [← hW0]; simp [Hid]
  have HB0 := hide (hB.grown (unhide HG0))
  have HW := hide hW0
  obtain ⟨X, HX⟩ : ∃ X, Hid (shrinkL L wd ht nw nh = X) := ⟨_, rfl⟩
  have HXL : Hid (X.length = m) := by unfold Hid; rw [← unhide HX, ← unhide HM]; exact gridL_len _ _ _
  dsimp only
  rw [unhide HX]
  clear hW0 hB hL h0 hok
  go_enter Try.func46, Try.ntmps46
  go_wp2_with fail
  rw [unhide HW]
  refine (newTones nw nh m hnw.2 hnh.2 HM W0).mono ?_
  rintro e w1 ⟨q, rfl, hQ, hge, g1⟩
  have HQL : Hid (q < w1.heap.size) := hQ.lt
  have HGE := hide hge
  obtain ⟨W1, hW1⟩ : ∃ W1, w1.alloc (.cells #[.int .i64 (nw : Int), .int .i64 (nh : Int), .slice (some ⟨q, 0, none⟩) m m] 57) = W1 := ⟨_, rfl⟩
  have G1 : Hid (W0.grownBy W1 none) := by rw [← hW1]; exact grown_alloc g1 _
  have HQ1 : Hid (Blk .u16 73 W1 q (laidTo X 0)) := by rw [← hW1, laidTo_zero, unhide HXL]; exact hQ.grown (World.grownBy_alloc _ _ _)
  have HB1 := hide ((unhide HB0).grown (unhide G1))
  have p0 := hide (grown_atG (unhide G1) (unhide b0) (by simp))
  have p1 := hide (grown_atG (unhide G1) (unhide b1) (by simp))
  have p2 := hide (grown_atG (unhide G1) (unhide b2) (by simp))
  have p3 : Hid (W1.heap[w1.heap.size]? = some (.cells #[.int .i64 (nw : Int), .int .i64 (nh : Int), .slice (some ⟨q, 0, none⟩) m m] 57 (0, 0))) := by rw [← hW1]; exact heap_alloc_new w1 _
  have HS1 : Hid (W.heap.size + 3 ≤ w1.heap.size) := by have := g1.size; have := unhide HS0; unfold Hid; omega
  have HW1 := hide hW1
  generalize hs : W.heap.size = s at *
  have HS := hide hs
  clear hs
  have c0 : W1.cell? ⟨s, 0, none⟩ = some (.int .i64 (wd : Int)) := by rw [cell_of_row W1 _ 0 _ _ (0, 0) (unhide p0)]; rfl
  have c1 : W1.cell? ⟨s, 1, none⟩ = some (.int .i64 (ht : Int)) := by rw [cell_of_row W1 _ 1 _ _ (0, 0) (unhide p0)]; rfl
  have c2 : W1.cell? ⟨s + 1, 0, none⟩ = some (.int .i64 (nw : Int)) := by rw [cell_of_row W1 _ 0 _ _ (0, 0) (unhide p1)]; rfl
  have c3 : W1.cell? ⟨s + 1, 1, none⟩ = some (.int .i64 (nh : Int)) := by rw [cell_of_row W1 _ 1 _ _ (0, 0) (unhide p1)]; rfl
  have d2 : (w1.alloc (.cells #[.int .i64 (nw : Int), .int .i64 (nh : Int), .slice (some ⟨q, 0, none⟩) m m] 57)).cell? ⟨s + 1, 0, none⟩ = some (.int .i64 (nw : Int)) := by rw [unhide HW1]; exact c2
  have d3 : (w1.alloc (.cells #[.int .i64 (nw : Int), .int .i64 (nh : Int), .slice (some ⟨q, 0, none⟩) m m] 57)).cell? ⟨s + 1, 1, none⟩ = some (.int .i64 (nh : Int)) := by rw [unhide HW1]; exact c3
  clear hQ hge g1 hW1 HB0 HW b0 b1 b2
  go_wp2
  rw [unhide HW1]
  generalize hs1 : w1.heap.size = s1 at *
  clear hs1 HW1 d2 d3
  have HQS : Hid (s + 3 ≤ q) := by have := unhide HGE; have := unhide HS0; unfold Hid; omega
  have H0' : Hid (∀ i, 0 ≤ L.getD i 0 ∧ L.getD i 0 ≤ 4095) := fun i => by
    by_cases hi : i < L.length
    · have e : L.getD i 0 = L[i] := by simp [hi]
      rw [e]
      exact unhide H0 _ (List.getElem_mem hi)
    · have e : L.getD i 0 = 0 := by rw [List.getD_eq_getElem?_getD, List.getElem?_eq_none (by omega)]; rfl
      rw [e]
      omega
  go_loopw [12] (fun rv wr => ∃ (r k : Nat), r ≤ nh ∧ rv = .int .i64 r ∧ Hid (r * nw = k) ∧ Hid (Blk .u16 73 wr q (laidTo X k)) ∧ Hid (W1.grownBy wr (some q))) (fun rv _ => nh - (intOf rv).toNat)
  case atStart => exact ⟨0, 0, by omega, by go_num, by simp [Hid], HQ1, World.grownBy.refl _ _⟩
  case round =>
    obtain ⟨r, k, hr, rfl, HK, HQR, HGR⟩ := hrel
    by_cases hlt : r < nh
    · have hrI : (r : Int) < (nh : Int) := by omega
      have e1 := i64_in ((r : Int) + 1) (by omega)
      have hok := unhide HOK
      obtain ⟨a, HA⟩ : ∃ a, Hid (fromN ht nh r = a) := ⟨_, rfl⟩
      obtain ⟨b, HB⟩ : ∃ b, Hid (toN ht nh r = b) := ⟨_, rfl⟩
      have hab : a < b := by rw [← unhide HA, ← unhide HB]; exact from_to hnh.1 hh.1
      have hbm : b ≤ ht := by rw [← unhide HB]; exact to_le hlt
      obtain ⟨ct, HCT⟩ : ∃ k, Hid (b - a = k) := ⟨_, rfl⟩
      obtain ⟨lo, HLO⟩ : ∃ lo : Nat, Hid (a * wd = lo) := ⟨_, rfl⟩
      have hkx := row_end (w := nw) hlt
      have hlx := row_end (w := wd) (show a < ht by omega)
      rw [Nat.mul_comm nh nw, unhide HK, unhide HM] at hkx
      rw [Nat.mul_comm ht wd, unhide HLO, unhide HN] at hlx
      have x0 := hide (grown_atG (unhide HGR) (unhide p0) (by have := unhide HQS; simp; omega))
      have x1 := hide (grown_atG (unhide HGR) (unhide p1) (by have := unhide HQS; simp; omega))
      have HK' : Hid ((r + 1) * nw = k + nw) := by unfold Hid; rw [Nat.add_mul, Nat.one_mul, unhide HK]
      have HAT : Hid (∀ x, x < nw → X.getD (k + x) 0 = ((List.range nw).map (shrinkF L wd ht nw nh r)).getD x 0) := fun x hx => by
        rw [← unhide HX, shrinkL, ← unhide HK, gridL_at _ hlt hx]
        simp [hx]
      have cy : wr.cell? ⟨s, 1, none⟩ = some (.int .i64 (ht : Int)) := by rw [cell_of_row wr _ 1 _ _ (0, 0) (unhide x0)]; rfl
      have cz : wr.cell? ⟨s + 1, 1, none⟩ = some (.int .i64 (nh : Int)) := by rw [cell_of_row wr _ 1 _ _ (0, 0) (unhide x1)]; rfl
      go_wp2_with fail
      refine (spanOf r nh ht a b hlt hnh.2 hh HA HB wr).mono ?_
      rintro e w4 ⟨rfl, g4⟩
      obtain ⟨W5, hW5⟩ : ∃ W5, w4.alloc (.cells #[.int .i64 (a : Int), .int .i64 (b : Int)] 86) = W5 := ⟨_, rfl⟩
      have G5 : Hid (wr.grownBy W5 none) := by rw [← hW5]; exact grown_alloc g4 _
      have b7 : Hid (W5.heap[w4.heap.size]? = some (.cells #[.int .i64 (a : Int), .int .i64 (b : Int)] 86 (0, 0))) := by rw [← hW5]; exact heap_alloc_new w4 _
      have HW5 := hide hW5
      clear hW5 g4 cy cz x1
      go_wp2_with fail
      rw [unhide HW5]
      clear HW5
      generalize w4.heap.size = s7 at *
      refine (spanCount a b ct (by omega) (by omega) HCT W5).mono ?_
      rintro e w6 ⟨rfl, g6⟩
      have G6 := hide (grown_trans (unhide G5) g6)
      have b8 := hide (grown_atG g6 (unhide b7) (by simp))
      clear g6 b7 G5
      by_cases hone : ct = 1
      · have e3 : ((ct : Int) == 1) = true := by simp [hone]
        have e4 : decide ((ct : Int) = 1) = true := by simp [hone]
        have HONE := hide hone
        have HMO : Hid (meansL (rowL L wd a) nw 1 = (List.range nw).map (shrinkF L wd ht nw nh r)) := by
          unfold Hid
          rw [← unhide HA]
          exact means_one (by rw [unhide HL, unhide HN]) hw.1 hlt (by rw [unhide HA, unhide HB, unhide HCT]; exact hone)
        clear hone
        go_wp2
        have G7 : Hid (wr.grownBy w6.drew none) := grown_drew (unhide G6)
        have x0 : Hid (w6.drew.heap[s]? = _) := grown_atG (unhide G7) (unhide x0) (by simp)
        have x3 : Hid (w6.drew.heap[s1]? = _) := grown_atG (unhide G7) (grown_atG (unhide HGR) (unhide p3) (by have := unhide HQL; simp; omega)) (by simp)
        have x7 : Hid (w6.drew.heap[s7]? = some (.cells #[.int .i64 (a : Int), .int .i64 (b : Int)] 86 (0, 0))) := unhide b8
        have HQ7 : Hid (Blk .u16 73 w6.drew q (laidTo X k)) := (unhide HQR).grown (unhide G7)
        have HB7 : Hid (Blk .u16 73 w6.drew g L) := ((unhide HB1).beside (unhide HGR) (by have := unhide HGL; have := unhide HQS; simp; omega)).grown (unhide G7)
        refine wp_region_noPanic ?_
        refine wp_region_tailL 20 (fun W => W.heap[s]? = some (.cells #[.int .i64 (wd : Int), .int .i64 (ht : Int), .slice (some ⟨g, 0, none⟩) n n] 57 (0, 0)) ∧ W.heap[s1]? = some (.cells #[.int .i64 (nw : Int), .int .i64 (nh : Int), .slice (some ⟨q, 0, none⟩) m m] 57 (0, 0)) ∧ W.heap[s7]? = some (.cells #[.int .i64 (a : Int), .int .i64 (b : Int)] 86 (0, 0))) [true, true, true, false, true, true, true, true, false, false] (by kernel_rfl) (fun _ _ _ _ _ h => h) rfl (by decide) (by kernel_rfl) ⟨unhide x0, unhide x3, unhide x7⟩ ?_
        generalize w6.drew = w7 at *
        clear G6 b8
        refine heldF_take (v := ?_) (Or.inl ⟨by rfl, ?_⟩) ?_
        rotate_left 1
        · intro w' hSw
          go_simp
          try with_reducible rfl
        try simp only [Act.put, List.setIfInBounds_toArray, List.set_cons_zero, List.set_cons_succ]
        refine heldF_take (v := .agg #[.int .i64 (nw : Int), .int .i64 (nh : Int), .slice (some ⟨q, 0, none⟩) m m]) (Or.inl ⟨by rfl, ?_⟩) ?_
        · intro w' hSw
          exact exec_row 55 _ rfl s1 rfl _ _ hSw.2.1 _ Try.underlying55 rfl (by kernel_rfl)
        try simp only [Act.put, List.setIfInBounds_toArray, List.set_cons_zero, List.set_cons_succ]
        refine heldF_take (v := ?_) (Or.inl ⟨by rfl, ?_⟩) ?_
        rotate_left 1
        · intro w' hSw
          go_simp
          try with_reducible rfl
        try simp only [Act.put, List.setIfInBounds_toArray, List.set_cons_zero, List.set_cons_succ]
        refine heldF_skip ?_
        refine heldF_take (v := ?_) (Or.inl ⟨by rfl, ?_⟩) ?_
        rotate_left 1
        · intro w' hSw
          go_simp
          try with_reducible rfl
        try simp only [Act.put, List.setIfInBounds_toArray, List.set_cons_zero, List.set_cons_succ]
        refine heldF_take (v := .agg #[.int .i64 (wd : Int), .int .i64 (ht : Int), .slice (some ⟨g, 0, none⟩) n n]) (Or.inl ⟨by rfl, ?_⟩) ?_
        · intro w' hSw
          exact exec_row 55 _ rfl s rfl _ _ hSw.1 _ Try.underlying55 rfl (by kernel_rfl)
        try simp only [Act.put, List.setIfInBounds_toArray, List.set_cons_zero, List.set_cons_succ]
        refine heldF_take (v := ?_) (Or.inl ⟨by rfl, ?_⟩) ?_
        rotate_left 1
        · intro w' hSw
          go_simp
          try with_reducible rfl
        try simp only [Act.put, List.setIfInBounds_toArray, List.set_cons_zero, List.set_cons_succ]
        refine heldF_take (v := ?_) (Or.inl ⟨by rfl, ?_⟩) ?_
        rotate_left 1
        · intro w' hSw
          have ca : w'.cell? ⟨s7, 0, none⟩ = some (.int .i64 (a : Int)) := by rw [cell_of_row w' _ 0 _ _ (0, 0) hSw.2.2]; rfl
          go_simp
          try with_reducible rfl
        try simp only [Act.put, List.setIfInBounds_toArray, List.set_cons_zero, List.set_cons_succ]
        refine heldF_skip ?_
        refine heldF_skip ?_
        refine heldF_nil ?_
        refine tailL_skip ?_
        refine tailL_skip ?_
        refine tailL_skip ?_
        refine tailL_step (fun K hK => ?_)
        go_simp
        refine (toneRow nw nh q m r k hnw hnh.2 hlt HM HK w7).mono ?_
        rintro e w5 ⟨rfl, g5⟩
        refine hK.out _ _ (.inr ⟨grown_atG g5 (unhide x0) (by simp), grown_atG g5 (unhide x3) (by simp), grown_atG g5 (unhide x7) (by simp)⟩) ?_
        clear hK K
        try simp only [Act.put, List.setIfInBounds_toArray, List.set_cons_zero, List.set_cons_succ]
        refine tailL_skip ?_
        refine tailL_skip ?_
        refine tailL_skip ?_
        refine tailL_skip ?_
        refine tailL_step (fun K hK => ?_)
        go_simp
        refine (toneRow wd ht g n a lo hw hh.2 (by omega) HN HLO w5).mono ?_
        rintro e w8 ⟨rfl, g8⟩
        refine hK.out _ _ (.inr ⟨grown_atG (grown_trans g5 g8) (unhide x0) (by simp), grown_atG (grown_trans g5 g8) (unhide x3) (by simp), grown_atG (grown_trans g5 g8) (unhide x7) (by simp)⟩) ?_
        clear hK K
        try simp only [Act.put, List.setIfInBounds_toArray, List.set_cons_zero, List.set_cons_succ]
        refine tailL_step (fun K hK => ?_)
        go_simp
        have hS8 := ((unhide HB7).grown (grown_trans g5 g8)).rd lo wd (by have := unhide HL; omega)
        have hPL : rowL L wd a = (L.drop lo).take wd := by rw [rowL, unhide HLO]
        rw [← hPL] at hS8
        refine (fillT q k nw _ g lo wd _ 1 X (rowL L wd a) w8 hnw hw (by omega) (by omega) ((unhide HQ7).grown (grown_trans g5 g8)) (by rw [unhide HXL]; exact hkx) (fun x hx => by rw [unhide HAT x hx, unhide HMO]) hS8 (by have := unhide HGL; have := unhide HQS; have := unhide HS; omega) (fun i => ?_)).mono ?_
        · by_cases hi : i < wd
          · rw [rowL_at hi]; have := unhide H0' (a * wd + i); simpa using this
          · have e : (rowL L wd a).getD i 0 = 0 := by rw [List.getD_eq_getElem?_getD, List.getElem?_eq_none (by rw [hS8.1]; omega)]; rfl
            rw [e]; omega
        rintro e w9 ⟨⟨v, rfl⟩, hQ9, g9⟩
        refine hK.out _ _ (.inl rfl) ?_
        clear hK K
        refine tailL_nil (NoPanic.normal ?_)
        try simp only [Act.put]
        have HG9 : Hid (W1.grownBy w9 (some q)) := grown_trans (unhide HGR) (grown_trans (grown_any (grown_trans (unhide G7) (grown_trans g5 g8))) g9)
        have HQ9 := hide hQ9
        clear hQ9 g9 g8 g5 HQR HGR
        go_wp2
        go_roundw
        case rel => exact ⟨r + 1, k + nw, by omega, by go_num, HK', HQ9, HG9⟩
        case measure => simp [intOf]; omega
      · have e3 : ((ct : Int) == 1) = false := by simp; omega
        have e4 : decide ((ct : Int) = 1) = false := by simp; omega
        have HMO : Hid (meansL (colsL L wd a ct) nw ct = (List.range nw).map (shrinkF L wd ht nw nh r)) := by
          unfold Hid
          have := means_more (L := L) (w := wd) (h := ht) (nw := nw) (nh := nh) (y := r) hw.1
          rw [unhide HA, unhide HB, unhide HCT] at this
          exact this
        have HC0 : Hid (∀ i, 0 ≤ (colsL L wd a ct).getD i 0 ∧ (colsL L wd a ct).getD i 0 ≤ 4095 * ct) := fun i => by
          by_cases hi : i < wd
          · rw [colsL_at _ _ _ _ _ hi]
            exact colS_in (unhide H0') ct
          · have e : (colsL L wd a ct).getD i 0 = 0 := by rw [List.getD_eq_getElem?_getD, List.getElem?_eq_none (by rw [colsL_len]; omega)]; rfl
            rw [e]
            omega
        clear hone
        go_wp2
        have G7 : Hid (wr.grownBy w6.drew none) := grown_drew (unhide G6)
        have x0 : Hid (w6.drew.heap[s]? = _) := grown_atG (unhide G7) (unhide x0) (by simp)
        have x3 : Hid (w6.drew.heap[s1]? = _) := grown_atG (unhide G7) (grown_atG (unhide HGR) (unhide p3) (by have := unhide HQL; simp; omega)) (by simp)
        have x7 : Hid (w6.drew.heap[s7]? = some (.cells #[.int .i64 (a : Int), .int .i64 (b : Int)] 86 (0, 0))) := unhide b8
        have HQ7 : Hid (Blk .u16 73 w6.drew q (laidTo X k)) := (unhide HQR).grown (unhide G7)
        have HB7 : Hid (Blk .u16 73 w6.drew g L) := ((unhide HB1).beside (unhide HGR) (by have := unhide HGL; have := unhide HQS; simp; omega)).grown (unhide G7)
        refine wp_region_noPanic ?_
        refine wp_region_tailL 20 (fun W => W.heap[s]? = some (.cells #[.int .i64 (wd : Int), .int .i64 (ht : Int), .slice (some ⟨g, 0, none⟩) n n] 57 (0, 0)) ∧ W.heap[s1]? = some (.cells #[.int .i64 (nw : Int), .int .i64 (nh : Int), .slice (some ⟨q, 0, none⟩) m m] 57 (0, 0)) ∧ W.heap[s7]? = some (.cells #[.int .i64 (a : Int), .int .i64 (b : Int)] 86 (0, 0))) [true, true, true, false, true, true, false, true, false, false] (by kernel_rfl) (fun _ _ _ _ _ h => h) rfl (by decide) (by kernel_rfl) ⟨unhide x0, unhide x3, unhide x7⟩ ?_
        generalize w6.drew = w7 at *
        clear G6 b8
        refine heldF_take (v := ?_) (Or.inl ⟨by rfl, ?_⟩) ?_
        rotate_left 1
        · intro w' hSw
          go_simp
          try with_reducible rfl
        try simp only [Act.put, List.setIfInBounds_toArray, List.set_cons_zero, List.set_cons_succ]
        refine heldF_take (v := .agg #[.int .i64 (nw : Int), .int .i64 (nh : Int), .slice (some ⟨q, 0, none⟩) m m]) (Or.inl ⟨by rfl, ?_⟩) ?_
        · intro w' hSw
          exact exec_row 55 _ rfl s1 rfl _ _ hSw.2.1 _ Try.underlying55 rfl (by kernel_rfl)
        try simp only [Act.put, List.setIfInBounds_toArray, List.set_cons_zero, List.set_cons_succ]
        refine heldF_take (v := ?_) (Or.inl ⟨by rfl, ?_⟩) ?_
        rotate_left 1
        · intro w' hSw
          go_simp
          try with_reducible rfl
        try simp only [Act.put, List.setIfInBounds_toArray, List.set_cons_zero, List.set_cons_succ]
        refine heldF_skip ?_
        refine heldF_take (v := .agg #[.int .i64 (wd : Int), .int .i64 (ht : Int), .slice (some ⟨g, 0, none⟩) n n]) (Or.inl ⟨by rfl, ?_⟩) ?_
        · intro w' hSw
          exact exec_row 57 _ rfl s rfl _ _ hSw.1 _ Try.underlying57 rfl (by kernel_rfl)
        try simp only [Act.put, List.setIfInBounds_toArray, List.set_cons_zero, List.set_cons_succ]
        refine heldF_take (v := .agg #[.int .i64 (a : Int), .int .i64 (b : Int)]) (Or.inl ⟨by rfl, ?_⟩) ?_
        · intro w' hSw
          exact exec_row 86 _ rfl s7 rfl _ _ hSw.2.2 _ Try.underlying86 rfl (by kernel_rfl)
        try simp only [Act.put, List.setIfInBounds_toArray, List.set_cons_zero, List.set_cons_succ]
        refine heldF_skip ?_
        refine heldF_take (v := .agg #[.int .i64 (a : Int), .int .i64 (b : Int)]) (Or.inl ⟨by rfl, ?_⟩) ?_
        · intro w' hSw
          exact exec_row 86 _ rfl s7 rfl _ _ hSw.2.2 _ Try.underlying86 rfl (by kernel_rfl)
        try simp only [Act.put, List.setIfInBounds_toArray, List.set_cons_zero, List.set_cons_succ]
        refine heldF_skip ?_
        refine heldF_skip ?_
        refine heldF_nil ?_
        refine tailL_skip ?_
        refine tailL_skip ?_
        refine tailL_skip ?_
        refine tailL_step (fun K hK => ?_)
        go_simp
        refine (toneRow nw nh q m r k hnw hnh.2 hlt HM HK w7).mono ?_
        rintro e w5 ⟨rfl, g5⟩
        refine hK.out _ _ (.inr ⟨grown_atG g5 (unhide x0) (by simp), grown_atG g5 (unhide x3) (by simp), grown_atG g5 (unhide x7) (by simp)⟩) ?_
        clear hK K
        try simp only [Act.put, List.setIfInBounds_toArray, List.set_cons_zero, List.set_cons_succ]
        refine tailL_skip ?_
        refine tailL_skip ?_
        refine tailL_step (fun K hK => ?_)
        go_simp
        refine (columnSums wd ht g n a b ct L w5 hw hh.2 HN (by omega) HCT ((unhide HB7).grown g5) (unhide HL) (unhide H0')).mono ?_
        rintro e w8 ⟨gs, rfl, hC8, hge8, g8⟩
        have HC8 := hide hC8
        clear hC8
        refine hK.out _ _ (.inr ⟨grown_atG (grown_trans g5 g8) (unhide x0) (by simp), grown_atG (grown_trans g5 g8) (unhide x3) (by simp), grown_atG (grown_trans g5 g8) (unhide x7) (by simp)⟩) ?_
        clear hK K
        try simp only [Act.put, List.setIfInBounds_toArray, List.set_cons_zero, List.set_cons_succ]
        refine tailL_skip ?_
        refine tailL_step (fun K hK => ?_)
        go_simp
        refine (spanCount a b ct (by omega) (by omega) HCT w8).mono ?_
        rintro e wc ⟨rfl, gc⟩
        refine hK.out _ _ (.inr ⟨grown_atG (grown_trans g5 (grown_trans g8 gc)) (unhide x0) (by simp), grown_atG (grown_trans g5 (grown_trans g8 gc)) (unhide x3) (by simp), grown_atG (grown_trans g5 (grown_trans g8 gc)) (unhide x7) (by simp)⟩) ?_
        clear hK K
        try simp only [Act.put, List.setIfInBounds_toArray, List.set_cons_zero, List.set_cons_succ]
        refine tailL_step (fun K hK => ?_)
        go_simp
        have hS8 := ((unhide HC8).grown gc).rd0
        rw [colsL_len] at hS8
        refine (fillI q k nw _ gs 0 wd wd ct X (colsL L wd a ct) wc hnw hw (by have := unhide HCT; omega) (by omega) ((unhide HQ7).grown (grown_trans g5 (grown_trans g8 gc))) (by rw [unhide HXL]; exact hkx) (fun x hx => by rw [unhide HAT x hx, unhide HMO]) hS8 (by have := (unhide HQ7).lt; have := g5.size; omega) (unhide HC0)).mono ?_
        rintro e w9 ⟨⟨v, rfl⟩, hQ9, g9⟩
        refine hK.out _ _ (.inl rfl) ?_
        clear hK K
        refine tailL_nil (NoPanic.normal ?_)
        try simp only [Act.put]
        have HG9 : Hid (W1.grownBy w9 (some q)) := grown_trans (unhide HGR) (grown_trans (grown_any (grown_trans (unhide G7) (grown_trans g5 (grown_trans g8 gc)))) g9)
        have HQ9 := hide hQ9
        clear hQ9 g9 g8 g5 gc HQR HGR
        go_wp2
        go_roundw
        case rel => exact ⟨r + 1, k + nw, by omega, by go_num, HK', HQ9, HG9⟩
        case measure => simp [intOf]; omega
    · obtain rfl : nh = r := by omega
      have HALL : Hid (laidTo X k = X) := by unfold Hid; rw [← unhide HK, Nat.mul_comm nh nw, unhide HM, ← unhide HXL]; exact laidTo_all X
      have HO2 := hide (grown_atG (unhide HGR) (unhide p2) (by have := unhide HQS; simp; omega))
      have HO3 := hide (grown_atG (unhide HGR) (unhide p3) (by have := unhide HQL; simp; omega))
      rw [unhide HALL] at HQR
      go_wp2_with (first | (refine load_row rfl 57 _ rfl s1 rfl #[.int .i64 (nw : Int), .int .i64 (nh : Int), .slice (some ⟨q, 0, none⟩) m m] 57 (unhide HO3) _ Try.underlying57 rfl (by kernel_rfl) ?_) | (refine store_row rfl 57 _ _ rfl (s + 1 + 1) rfl #[.int .i64 (nw : Int), .int .i64 (nh : Int), .slice (some ⟨q, 0, none⟩) m m] rfl _ 57 (unhide HO2) rfl (by kernel_rfl) (by simp [Value.oneCell']) ?_; intro w9 hB9 g9))
      refine bodyPost_ret (v := .agg #[.int .i64 (nw : Int), .int .i64 (nh : Int), .slice (some ⟨q, 0, none⟩) m m]) ?_ rfl ⟨q, rfl, (unhide HQR).beside g9 (by have := unhide HQS; simp; omega), ?_⟩
      · rw [results_c1 rfl]
        exact run_loadVar_row w9 _ 57 57 _ (0, 0) _ hB9 Try.underlying57 rfl (by kernel_rfl)
      · exact grown_new (grown_new (grown_trans (unhide HG0) (unhide G1)) (unhide HGR) (fun k e => by simp at e; have := unhide HS; have := unhide HQS; omega)) g9 (fun k e => by simp at e; have := unhide HS; omega)

end Go.Proofs.Ytkefpjbdkhifhaa

namespace Go.Proofs.Ytkefpjbdkhifhaa
open Go.RowKit Go.Shelf

attribute [local go_sem] Oper.semAt_some

set_option maxRecDepth 100000 in
set_option maxHeartbeats 6400000 in
theorem grown : TurnC 51 (fun wd ht nw nh => wd ≤ nw ∧ ht ≤ nh) (fun L wd ht nw nh => growL L wd ht nw nh) := by
  intro wd ht g n nw nh m L W hw hh HN hn hnw hnh HM hm hok hB hL h0
  have HL := hide hL
  have H0 := hide h0
  have HOK := hide hok
  have HGL : Hid (g < W.heap.size) := hB.lt
  obtain ⟨W0, hW0⟩ : ∃ W0, ((W.alloc (.cells #[.int .i64 (wd : Int), .int .i64 (ht : Int), .slice (some ⟨g, 0, none⟩) n n] 57)).alloc (.cells #[.int .i64 (nw : Int), .int .i64 (nh : Int)] 48)).alloc (.cells #[.int .i64 0, .int .i64 0, .slice none 0 0] 57) = W0 := ⟨_, rfl⟩
  have HG0 : Hid (W.grownBy W0 none) := by rw [← hW0]; exact grown_alloc (grown_alloc (World.grownBy_alloc _ _ _) _) _
  have b0 : Hid (W0.heap[W.heap.size]? = some (.cells #[.int .i64 (wd : Int), .int .i64 (ht : Int), .slice (some ⟨g, 0, none⟩) n n] 57 (0, 0))) := by rw [← hW0, Below.heap_alloc _ _ _ (by simp <;> omega), Below.heap_alloc _ _ _ (by simp)]; exact heap_alloc_new W _
  have b1 : Hid (W0.heap[W.heap.size + 1]? = some (.cells #[.int .i64 (nw : Int), .int .i64 (nh : Int)] 48 (0, 0))) := by
    rw [← hW0, Below.heap_alloc _ _ _ (by simp)]
    have := heap_alloc_new (W.alloc (.cells #[.int .i64 (wd : Int), .int .i64 (ht : Int), .slice (some ⟨g, 0, none⟩) n n] 57)) (.cells #[.int .i64 (nw : Int), .int .i64 (nh : Int)] 48)
    unfold Hid
    simpa using this
  have b2 : Hid (W0.heap[W.heap.size + 1 + 1]? = some (.cells #[.int .i64 0, .int .i64 0, .slice none 0 0] 57 (0, 0))) := by
    rw [← hW0]
    have := heap_alloc_new ((W.alloc (.cells #[.int .i64 (wd : Int), .int .i64 (ht : Int), .slice (some ⟨g, 0, none⟩) n n] 57)).alloc (.cells #[.int .i64 (nw : Int), .int .i64 (nh : Int)] 48)) (.cells #[.int .i64 0, .int .i64 0, .slice none 0 0] 57)
    unfold Hid
    simpa using this
  have HS0 : Hid (W0.heap.size = W.heap.size + 3) := by rw [← hW0]; simp [Hid]
  have HB0 := hide (hB.grown (unhide HG0))
  have HW := hide hW0
  obtain ⟨X, HX⟩ : ∃ X, Hid (growL L wd ht nw nh = X) := ⟨_, rfl⟩
  have HXL : Hid (X.length = m) := by unfold Hid; rw [← unhide HX, ← unhide HM]; exact gridL_len _ _ _
  dsimp only
  rw [unhide HX]
  clear hW0 hB hL h0 hok
  refine (callsIn_wide (n := 0)).1 ?_
  refine callsIn_of_wp_marks Try.func51 rfl trivial ?_ rfl
  refine wpIn_wide.2 ?_
  simp only [Try.ntmps51, List.size_toArray, List.length_cons, List.length_nil, Nat.reduceAdd, Nat.reduceSub, Array.replicate_succ, Array.replicate_zero, List.push_toArray, List.append_toArray, List.nil_append, List.cons_append]
  go_wp2_with fail
  rw [unhide HW]
  refine (newTones nw nh m hnw.2 hnh.2 HM W0).mono ?_
  rintro e w1 ⟨q, rfl, hQ, hge, g1⟩
  have HQL : Hid (q < w1.heap.size) := hQ.lt
  have HGE := hide hge
  obtain ⟨W1, hW1⟩ : ∃ W1, w1.alloc (.cells #[.int .i64 (nw : Int), .int .i64 (nh : Int), .slice (some ⟨q, 0, none⟩) m m] 57) = W1 := ⟨_, rfl⟩
  have G1 : Hid (W0.grownBy W1 none) := by rw [← hW1]; exact grown_alloc g1 _
  have HQ1 : Hid (Blk .u16 73 W1 q (laidTo X 0)) := by rw [← hW1, laidTo_zero, unhide HXL]; exact hQ.grown (World.grownBy_alloc _ _ _)
  have HB1 := hide ((unhide HB0).grown (unhide G1))
  have p0 := hide (grown_atG (unhide G1) (unhide b0) (by simp))
  have p1 := hide (grown_atG (unhide G1) (unhide b1) (by simp))
  have p2 := hide (grown_atG (unhide G1) (unhide b2) (by simp))
  have p3 : Hid (W1.heap[w1.heap.size]? = some (.cells #[.int .i64 (nw : Int), .int .i64 (nh : Int), .slice (some ⟨q, 0, none⟩) m m] 57 (0, 0))) := by rw [← hW1]; exact heap_alloc_new w1 _
  have HS1 : Hid (W.heap.size + 3 ≤ w1.heap.size) := by have := g1.size; have := unhide HS0; unfold Hid; omega
  have HW1 := hide hW1
  generalize hs : W.heap.size = s at *
  have HS := hide hs
  clear hs
  have c0 : W1.cell? ⟨s, 0, none⟩ = some (.int .i64 (wd : Int)) := by rw [cell_of_row W1 _ 0 _ _ (0, 0) (unhide p0)]; rfl
  have c1 : W1.cell? ⟨s, 1, none⟩ = some (.int .i64 (ht : Int)) := by rw [cell_of_row W1 _ 1 _ _ (0, 0) (unhide p0)]; rfl
  have c2 : W1.cell? ⟨s + 1, 0, none⟩ = some (.int .i64 (nw : Int)) := by rw [cell_of_row W1 _ 0 _ _ (0, 0) (unhide p1)]; rfl
  have c3 : W1.cell? ⟨s + 1, 1, none⟩ = some (.int .i64 (nh : Int)) := by rw [cell_of_row W1 _ 1 _ _ (0, 0) (unhide p1)]; rfl
  have d2 : (w1.alloc (.cells #[.int .i64 (nw : Int), .int .i64 (nh : Int), .slice (some ⟨q, 0, none⟩) m m] 57)).cell? ⟨s + 1, 0, none⟩ = some (.int .i64 (nw : Int)) := by rw [unhide HW1]; exact c2
  have d3 : (w1.alloc (.cells #[.int .i64 (nw : Int), .int .i64 (nh : Int), .slice (some ⟨q, 0, none⟩) m m] 57)).cell? ⟨s + 1, 1, none⟩ = some (.int .i64 (nh : Int)) := by rw [unhide HW1]; exact c3
  clear hQ hge g1 hW1 HB0 HW b0 b1 b2
  go_wp2_with fail
  rw [unhide HW1]
  generalize hs1 : w1.heap.size = s1 at *
  clear hs1 HW1 d2 d3
  have HQS : Hid (s + 3 ≤ q) := by have := unhide HGE; have := unhide HS0; unfold Hid; omega
  refine (callsIn_wide.1 (spots_in Fence.wide 0 trivial rfl _ _ _)).mono ?_
  rintro e w' ⟨rfl, rfl⟩
  obtain ⟨w8, hw8⟩ : ∃ w8, W1.alloc (.cells #[.int .i64 (nw : Int), .int .i64 (nh : Int)] 48) = w8 := ⟨_, rfl⟩
  have g8 : W1.grownBy w8 none := by rw [← hw8]; exact World.grownBy_alloc _ _ _
  have s8 : w8.heap.size = W1.heap.size + 1 := by rw [← hw8]; simp
  have BA8 : Hid (w8.heap[W1.heap.size]? = some (.cells #[.int .i64 (nw : Int), .int .i64 (nh : Int)] 48 (0, 0))) := by rw [← hw8]; exact heap_alloc_new _ _
  rw [hw8]
  have G8 := hide g8
  have HQ8 := hide ((unhide HQ1).grown g8)
  have HB8 := hide ((unhide HB1).grown g8)
  have r0 := hide (grown_atG g8 (unhide p0) (by simp))
  have r1 := hide (grown_atG g8 (unhide p1) (by simp))
  have r2 := hide (grown_atG g8 (unhide p2) (by simp))
  have r3 := hide (grown_atG g8 (unhide p3) (by simp))
  have HL1 : Hid (q < W1.heap.size ∧ s1 < W1.heap.size ∧ s + 3 ≤ s1) := ⟨(unhide HQ1).lt, (Array.getElem?_eq_some_iff.1 (unhide p3)).1, unhide HS1⟩
  have HS8 := hide s8
  clear hw8 g8 s8 HQ1 HB1 p0 p1 p2 p3 c0 c1 c2 c3
  go_wp2
  refine (wpIn_wide (n := 0)).1 ?_
  refine rangeFunc_gives (gf := 82) (lb := #[.pointer (some ⟨W1.heap.size, 0, none⟩)]) (O := fun k => k = q) rfl (enters_of Try.func82 (by kernel_rfl) rfl) (fun k hk => by have := unhide HL1; have := unhide HS8; omega)
    (spots_gives W1.heap.size nw nh (by omega) (by omega) _ w8 (unhide BA8) (fun e => by have := unhide HL1; omega)) (fun _ => rfl)
    (fun pre Wk => Blk .u16 73 Wk q (laidTo X pre.length)) (fun pre A A' h hk => h.same (hk q rfl)) (unhide HQ8) ?a1 ?assign ?body ?done
  case assign =>
    intro l' mm x Wa K hK
    gi_wp2
    exact hK
  case body =>
    intro l' mm pre x Wa hI hb hlen
    obtain ⟨hk1, hk2, hk3⟩ := spot_num hlen
    obtain ⟨y, xx⟩ := x
    dsimp only at hk1 hk2 hk3 ⊢
    have HK := hide hk1
    have HI := hide hI
    have HBB := hide hb
    have hok := unhide HOK
    have HNE : Hid (s ≠ q ∧ s + 1 ≠ q ∧ s1 ≠ q ∧ g ≠ q) := by have := unhide HQS; have := unhide HQL; have := unhide HGL; have := unhide HS; exact ⟨by omega, by omega, by omega, by omega⟩
    have l8 := unhide HL1
    have s8 := unhide HS8
    have y0 := hide ((hb.block s (by omega) (fun e => (unhide HNE).1 e)).trans (unhide r0))
    have y1 := hide ((hb.block (s + 1) (by omega) (fun e => (unhide HNE).2.1 e)).trans (unhide r1))
    have y3 := hide ((hb.block s1 (by omega) (fun e => (unhide HNE).2.2.1 e)).trans (unhide r3))
    have HBa : Hid (Blk .u16 73 Wa g L) := (unhide HB8).same (hb.block g (by have := unhide HGL; have := unhide HS; omega) (fun e => (unhide HNE).2.2.2 e))
    obtain ⟨a1, HA1⟩ : ∃ a : Nat, Hid (y * ht = a) := ⟨_, rfl⟩
    obtain ⟨a2, HA2⟩ : ∃ a : Nat, Hid (a1 / nh = a) := ⟨_, rfl⟩
    obtain ⟨a4, HA4⟩ : ∃ a : Nat, Hid (xx * wd = a) := ⟨_, rfl⟩
    obtain ⟨a5, HA5⟩ : ∃ a : Nat, Hid (a4 / nw = a) := ⟨_, rfl⟩
    obtain ⟨ix, HIX⟩ : ∃ i : Nat, Hid (a2 * wd + a5 = i) := ⟨_, rfl⟩
    have l1' : a1 ≤ 1048576 := by rw [← unhide HA1]; exact Nat.mul_le_mul (by omega : y ≤ 1024) (by omega : ht ≤ 1024)
    have l4 : a4 ≤ 1048576 := by rw [← unhide HA4]; exact Nat.mul_le_mul (by omega : xx ≤ 1024) (by omega : wd ≤ 1024)
    have l2 : a2 < ht := by
      rw [← unhide HA2, ← unhide HA1]
      exact Nat.div_lt_of_lt_mul (Nat.mul_lt_mul_of_pos_right hk2 (by omega))
    have l5 : a5 < wd := by
      rw [← unhide HA5, ← unhide HA4]
      exact Nat.div_lt_of_lt_mul (Nat.mul_lt_mul_of_pos_right hk3 (by omega))
    have hix : ix < n := by
      have h1 := row_end (w := wd) l2
      rw [Nat.mul_comm ht wd, unhide HN] at h1
      have := unhide HIX
      omega
    have hkm : pre.length < m := by
      have h1 := row_end (w := nw) hk2
      rw [Nat.mul_comm nh nw, unhide HM] at h1
      omega
    have k1 : IntKind.i64.wrap ((y : Int) * (ht : Int)) = (a1 : Int) := by
      have e : (y : Int) * (ht : Int) = (a1 : Int) := by have := unhide HA1; exact_mod_cast this
      rw [e, i64_in _ (by omega)]
    have k2 : (a1 : Int).tdiv (nh : Int) = (a2 : Int) := by
      rw [Int.tdiv_eq_ediv_of_nonneg (by omega)]
      have := unhide HA2
      exact_mod_cast this
    have k4 : IntKind.i64.wrap ((xx : Int) * (wd : Int)) = (a4 : Int) := by
      have e : (xx : Int) * (wd : Int) = (a4 : Int) := by have := unhide HA4; exact_mod_cast this
      rw [e, i64_in _ (by omega)]
    have k5 : (a4 : Int).tdiv (nw : Int) = (a5 : Int) := by
      rw [Int.tdiv_eq_ediv_of_nonneg (by omega)]
      have := unhide HA5
      exact_mod_cast this
    have k7 := i64_in (a2 : Int) (by omega)
    have k8 := i64_in (a5 : Int) (by omega)
    have z1 : ((nh : Int) == 0) = false := beq_eq_false_iff_ne.2 (by omega)
    have z2 : ((nh : Int) == -1) = false := beq_eq_false_iff_ne.2 (by omega)
    have z3 : ((nw : Int) == 0) = false := beq_eq_false_iff_ne.2 (by omega)
    have z4 : ((nw : Int) == -1) = false := beq_eq_false_iff_ne.2 (by omega)
    have z5 : ¬ nh = 0 := by omega
    have z6 : ¬ nw = 0 := by omega
    obtain ⟨z, HZ⟩ : ∃ z, Hid (L.getD ix 0 = z) := ⟨_, rfl⟩
    have HSET : Hid ((laidTo X pre.length).set pre.length z = laidTo X (pre.length + 1)) := by
      refine laidTo_set X pre.length (by rw [unhide HXL]; exact hkm) z ?_
      rw [← unhide HX, growL, ← unhide HK, gridL_at _ hk2 hk3, unhide HA1, unhide HA2, unhide HA4, unhide HA5, unhide HIX, unhide HZ]
    have hn1 : (pre ++ [(y, xx)]).length = pre.length + 1 := by simp
    rw [hn1]
    obtain ⟨pl, HPL⟩ : ∃ k, Hid (pre.length = k) := ⟨_, rfl⟩
    rw [unhide HPL] at HSET HK HI ⊢
    rw [unhide HPL] at hkm
    have HYK : Hid (y * nw + xx = pl) := HK
    clear hI hb hlen hk1 hn1 HPL
    gi_wp2
    refine wpIn_raw (fun W => W.heap[s]? = some (.cells #[.int .i64 (wd : Int), .int .i64 (ht : Int), .slice (some ⟨g, 0, none⟩) n n] 57 (0, 0)) ∧ W.heap[s1]? = some (.cells #[.int .i64 (nw : Int), .int .i64 (nh : Int), .slice (some ⟨q, 0, none⟩) m m] 57 (0, 0)) ∧ W.heap[s + 1]? = some (.cells #[.int .i64 (nw : Int), .int .i64 (nh : Int)] 48 (0, 0))) [true, true, true, true, true, true, true, true, true, true, true, true, true, true, true, true, true, true, true, true, true, true, true, true, false, false] (by kernel_rfl) (fun _ _ h => h) (fun _ _ _ _ _ h => h) rfl (by kernel_rfl) (by kernel_rfl) ⟨unhide y0, unhide y3, unhide y1⟩ ?_
    have z0 : Hid (Wa.drew.heap[s]? = _) := unhide y0
    have zz3 : Hid (Wa.drew.heap[s1]? = _) := unhide y3
    have zz1 : Hid (Wa.drew.heap[s + 1]? = _) := unhide y1
    have HBd : Hid (Blk .u16 73 Wa.drew g L) := unhide HBa
    have HId : Hid (Blk .u16 73 Wa.drew q (laidTo X pl)) := unhide HI
    have GD : Hid (Wa.grownBy Wa.drew none) := grown_drew (World.grownBy.refl _ _)
    generalize Wa.drew = Wd at *
    refine heldF_take (v := ?_) (Or.inl ⟨by rfl, ?_⟩) ?_
    rotate_left 1
    · intro w' hSw
      go_simp
      try with_reducible rfl
    try simp only [Act.put, List.setIfInBounds_toArray, List.set_cons_zero, List.set_cons_succ]
    refine heldF_take (v := .agg #[.int .i64 (nw : Int), .int .i64 (nh : Int), .slice (some ⟨q, 0, none⟩) m m]) (Or.inl ⟨by rfl, ?_⟩) ?_
    · intro w' hSw
      exact exec_row 55 _ rfl s1 rfl _ _ hSw.2.1 _ Try.underlying55 rfl (by kernel_rfl)
    try simp only [Act.put, List.setIfInBounds_toArray, List.set_cons_zero, List.set_cons_succ]
    refine heldF_take (v := ?_) (Or.inl ⟨by rfl, ?_⟩) ?_
    rotate_left 1
    · intro w' hSw
      go_simp
      try with_reducible rfl
    try simp only [Act.put, List.setIfInBounds_toArray, List.set_cons_zero, List.set_cons_succ]
    refine heldF_take (v := ?_) (Or.inl ⟨by rfl, ?_⟩) ?_
    rotate_left 1
    · intro w' hSw
      go_simp
      try with_reducible rfl
    try simp only [Act.put, List.setIfInBounds_toArray, List.set_cons_zero, List.set_cons_succ]
    refine heldF_take (v := ?_) (Or.inl ⟨by rfl, ?_⟩) ?_
    rotate_left 1
    · intro w' hSw
      go_simp
      try with_reducible rfl
    try simp only [Act.put, List.setIfInBounds_toArray, List.set_cons_zero, List.set_cons_succ]
    refine heldF_take (v := .agg #[.int .i64 (wd : Int), .int .i64 (ht : Int), .slice (some ⟨g, 0, none⟩) n n]) (Or.inl ⟨by rfl, ?_⟩) ?_
    · intro w' hSw
      exact exec_row 55 _ rfl s rfl _ _ hSw.1 _ Try.underlying55 rfl (by kernel_rfl)
    try simp only [Act.put, List.setIfInBounds_toArray, List.set_cons_zero, List.set_cons_succ]
    refine heldF_take (v := ?_) (Or.inl ⟨by rfl, ?_⟩) ?_
    rotate_left 1
    · intro w' hSw
      go_simp
      try with_reducible rfl
    try simp only [Act.put, List.setIfInBounds_toArray, List.set_cons_zero, List.set_cons_succ]
    refine heldF_take (v := ?_) (Or.inl ⟨by rfl, ?_⟩) ?_
    rotate_left 1
    · intro w' hSw
      go_simp
      try with_reducible rfl
    try simp only [Act.put, List.setIfInBounds_toArray, List.set_cons_zero, List.set_cons_succ]
    refine heldF_take (v := ?_) (Or.inl ⟨by rfl, ?_⟩) ?_
    rotate_left 1
    · intro w' hSw
      go_simp
      try with_reducible rfl
    try simp only [Act.put, List.setIfInBounds_toArray, List.set_cons_zero, List.set_cons_succ]
    refine heldF_take (v := ?_) (Or.inl ⟨by rfl, ?_⟩) ?_
    rotate_left 1
    · intro w' hSw
      go_simp
      try with_reducible rfl
    try simp only [Act.put, List.setIfInBounds_toArray, List.set_cons_zero, List.set_cons_succ]
    refine heldF_take (v := ?_) (Or.inl ⟨by rfl, ?_⟩) ?_
    rotate_left 1
    · intro w' hSw
      obtain ⟨q0, q3, q1⟩ := hSw
      have ca : w'.cell? ⟨s, 0, none⟩ = some (.int .i64 (wd : Int)) := by rw [cell_of_row w' _ 0 _ _ (0, 0) q0]; rfl
      have cb : w'.cell? ⟨s, 1, none⟩ = some (.int .i64 (ht : Int)) := by rw [cell_of_row w' _ 1 _ _ (0, 0) q0]; rfl
      have cc : w'.cell? ⟨s + 1, 0, none⟩ = some (.int .i64 (nw : Int)) := by rw [cell_of_row w' _ 0 _ _ (0, 0) q1]; rfl
      have cd : w'.cell? ⟨s + 1, 1, none⟩ = some (.int .i64 (nh : Int)) := by rw [cell_of_row w' _ 1 _ _ (0, 0) q1]; rfl
      go_simp
      try with_reducible rfl
    try simp only [Act.put, List.setIfInBounds_toArray, List.set_cons_zero, List.set_cons_succ]
    refine heldF_take (v := ?_) (Or.inl ⟨by rfl, ?_⟩) ?_
    rotate_left 1
    · intro w' hSw
      go_simp
      try with_reducible rfl
    try simp only [Act.put, List.setIfInBounds_toArray, List.set_cons_zero, List.set_cons_succ]
    refine heldF_take (v := ?_) (Or.inl ⟨by rfl, ?_⟩) ?_
    rotate_left 1
    · intro w' hSw
      go_simp
      try with_reducible rfl
    try simp only [Act.put, List.setIfInBounds_toArray, List.set_cons_zero, List.set_cons_succ]
    refine heldF_take (v := ?_) (Or.inl ⟨by rfl, ?_⟩) ?_
    rotate_left 1
    · intro w' hSw
      obtain ⟨q0, q3, q1⟩ := hSw
      have ca : w'.cell? ⟨s, 0, none⟩ = some (.int .i64 (wd : Int)) := by rw [cell_of_row w' _ 0 _ _ (0, 0) q0]; rfl
      have cb : w'.cell? ⟨s, 1, none⟩ = some (.int .i64 (ht : Int)) := by rw [cell_of_row w' _ 1 _ _ (0, 0) q0]; rfl
      have cc : w'.cell? ⟨s + 1, 0, none⟩ = some (.int .i64 (nw : Int)) := by rw [cell_of_row w' _ 0 _ _ (0, 0) q1]; rfl
      have cd : w'.cell? ⟨s + 1, 1, none⟩ = some (.int .i64 (nh : Int)) := by rw [cell_of_row w' _ 1 _ _ (0, 0) q1]; rfl
      go_simp
      try with_reducible rfl
    try simp only [Act.put, List.setIfInBounds_toArray, List.set_cons_zero, List.set_cons_succ]
    refine heldF_take (v := ?_) (Or.inl ⟨by rfl, ?_⟩) ?_
    rotate_left 1
    · intro w' hSw
      go_simp
      try with_reducible rfl
    try simp only [Act.put, List.setIfInBounds_toArray, List.set_cons_zero, List.set_cons_succ]
    refine heldF_take (v := ?_) (Or.inl ⟨by rfl, ?_⟩) ?_
    rotate_left 1
    · intro w' hSw
      go_simp
      try with_reducible rfl
    try simp only [Act.put, List.setIfInBounds_toArray, List.set_cons_zero, List.set_cons_succ]
    refine heldF_take (v := ?_) (Or.inl ⟨by rfl, ?_⟩) ?_
    rotate_left 1
    · intro w' hSw
      go_simp
      try with_reducible rfl
    try simp only [Act.put, List.setIfInBounds_toArray, List.set_cons_zero, List.set_cons_succ]
    refine heldF_take (v := ?_) (Or.inl ⟨by rfl, ?_⟩) ?_
    rotate_left 1
    · intro w' hSw
      go_simp
      try with_reducible rfl
    try simp only [Act.put, List.setIfInBounds_toArray, List.set_cons_zero, List.set_cons_succ]
    refine heldF_take (v := ?_) (Or.inl ⟨by rfl, ?_⟩) ?_
    rotate_left 1
    · intro w' hSw
      go_simp
      try with_reducible rfl
    try simp only [Act.put, List.setIfInBounds_toArray, List.set_cons_zero, List.set_cons_succ]
    refine heldF_take (v := ?_) (Or.inl ⟨by rfl, ?_⟩) ?_
    rotate_left 1
    · intro w' hSw
      obtain ⟨q0, q3, q1⟩ := hSw
      have ca : w'.cell? ⟨s, 0, none⟩ = some (.int .i64 (wd : Int)) := by rw [cell_of_row w' _ 0 _ _ (0, 0) q0]; rfl
      have cb : w'.cell? ⟨s, 1, none⟩ = some (.int .i64 (ht : Int)) := by rw [cell_of_row w' _ 1 _ _ (0, 0) q0]; rfl
      have cc : w'.cell? ⟨s + 1, 0, none⟩ = some (.int .i64 (nw : Int)) := by rw [cell_of_row w' _ 0 _ _ (0, 0) q1]; rfl
      have cd : w'.cell? ⟨s + 1, 1, none⟩ = some (.int .i64 (nh : Int)) := by rw [cell_of_row w' _ 1 _ _ (0, 0) q1]; rfl
      go_simp
      try with_reducible rfl
    try simp only [Act.put, List.setIfInBounds_toArray, List.set_cons_zero, List.set_cons_succ]
    refine heldF_take (v := ?_) (Or.inl ⟨by rfl, ?_⟩) ?_
    rotate_left 1
    · intro w' hSw
      go_simp
      try with_reducible rfl
    try simp only [Act.put, List.setIfInBounds_toArray, List.set_cons_zero, List.set_cons_succ]
    refine heldF_take (v := ?_) (Or.inl ⟨by rfl, ?_⟩) ?_
    rotate_left 1
    · intro w' hSw
      go_simp
      try with_reducible rfl
    try simp only [Act.put, List.setIfInBounds_toArray, List.set_cons_zero, List.set_cons_succ]
    refine heldF_take (v := ?_) (Or.inl ⟨by rfl, ?_⟩) ?_
    rotate_left 1
    · intro w' hSw
      obtain ⟨q0, q3, q1⟩ := hSw
      have ca : w'.cell? ⟨s, 0, none⟩ = some (.int .i64 (wd : Int)) := by rw [cell_of_row w' _ 0 _ _ (0, 0) q0]; rfl
      have cb : w'.cell? ⟨s, 1, none⟩ = some (.int .i64 (ht : Int)) := by rw [cell_of_row w' _ 1 _ _ (0, 0) q0]; rfl
      have cc : w'.cell? ⟨s + 1, 0, none⟩ = some (.int .i64 (nw : Int)) := by rw [cell_of_row w' _ 0 _ _ (0, 0) q1]; rfl
      have cd : w'.cell? ⟨s + 1, 1, none⟩ = some (.int .i64 (nh : Int)) := by rw [cell_of_row w' _ 1 _ _ (0, 0) q1]; rfl
      go_simp
      try with_reducible rfl
    try simp only [Act.put, List.setIfInBounds_toArray, List.set_cons_zero, List.set_cons_succ]
    refine heldF_take (v := ?_) (Or.inl ⟨by rfl, ?_⟩) ?_
    rotate_left 1
    · intro w' hSw
      go_simp
      try with_reducible rfl
    try simp only [Act.put, List.setIfInBounds_toArray, List.set_cons_zero, List.set_cons_succ]
    refine heldF_skip (heldF_skip (heldF_nil ?_))
    refine anyH_step1 (i := 24) rfl (by kernel_rfl) (fun K hK => ?_)
    go_simp
    refine (toneAt wd ht g n a2 a5 ix L (by omega) (by omega) (by omega) HIX hix (unhide HL) Wd (unhide HBd)).mono ?_
    rintro e w5 ⟨rfl, g5⟩
    rw [unhide HZ]
    refine hK.out _ _ ⟨grown_atG g5 (unhide z0) (by simp), grown_atG g5 (unhide zz3) (by simp), grown_atG g5 (unhide zz1) (by simp)⟩ ?_
    clear hK K
    try simp only [Act.put, List.setIfInBounds_toArray, List.set_cons_zero, List.set_cons_succ]
    refine anyH_step1 (i := 25) rfl (by kernel_rfl) (fun K hK => ?_)
    go_simp
    refine (tonePut nw nh q m y xx pl (laidTo X pl) z (by omega) (by omega) (by omega) HYK hkm (by rw [laidTo_len X pl (by have := unhide HXL; omega), unhide HXL]) w5 ((unhide HId).grown g5)).mono ?_
    rintro e w6 ⟨⟨v, rfl⟩, hQ6, g6⟩
    rw [unhide HSET] at hQ6
    refine hK.out _ _ ⟨grown_atG g6 (grown_atG g5 (unhide z0) (by simp)) (by have := unhide HNE; simp; omega), grown_atG g6 (grown_atG g5 (unhide zz3) (by simp)) (by have := unhide HNE; simp; omega), grown_atG g6 (grown_atG g5 (unhide zz1) (by simp)) (by have := unhide HNE; simp; omega)⟩ ?_
    clear hK K
    try simp only [Act.put, List.setIfInBounds_toArray, List.set_cons_zero, List.set_cons_succ]
    refine wpAnyH_done (by kernel_rfl) ?_ _
    have hBut : But (fun k => k = q) Wa w6 := (But.of_grown (grown_trans (unhide GD) g5) (fun k e => by cases e)).trans (But.of_grown g6 (fun k e => by cases e; rfl))
    exact (⟨hQ6, hBut⟩ : _ ∧ _)
  case done =>
    intro D W9 hD hi b9 hdef
    have hlen9 : (sTo nw nh).length = m := by rw [sTo_len, Nat.mul_comm]; exact unhide HM
    rw [hlen9, ← unhide HXL, laidTo_all] at hi
    have l8 := unhide HL1
    have s8 := unhide HS8
    have hqs := unhide HQS
    have hql := unhide HQL
    have x2 := hide ((b9.block (s + 1 + 1) (by omega) (by show ¬ s + 1 + 1 = q; omega)).trans (unhide r2))
    have x3 := hide ((b9.block s1 (by omega) (by show ¬ s1 = q; omega)).trans (unhide r3))
    have HI9 := hide hi
    have HB9 := hide b9
    have HDEF := hide hdef
    clear hi b9 hdef hlen9
    go_wp2_with (first | (refine load_row rfl 57 _ rfl s1 rfl #[.int .i64 (nw : Int), .int .i64 (nh : Int), .slice (some ⟨q, 0, none⟩) m m] 57 (unhide x3) _ Try.underlying57 rfl (by kernel_rfl) ?_) | (refine store_row rfl 57 _ _ rfl (s + 1 + 1) rfl #[.int .i64 (nw : Int), .int .i64 (nh : Int), .slice (some ⟨q, 0, none⟩) m m] rfl _ 57 (unhide x2) rfl (by kernel_rfl) (by simp [Value.oneCell']) ?_; intro w9 hBq g9))
    refine ⟨by simp, .inl ⟨_, _, rfl, run_takeDeferred (grown_atG g9 (unhide HDEF) (by simp; omega)), ?_⟩⟩
    have hBr : (w9.putObj D (.deferred none)).heap[s + 1 + 1]? = some (.cells #[.int .i64 (nw : Int), .int .i64 (nh : Int), .slice (some ⟨q, 0, none⟩) m m] 57 (0, 0)) := (World.putObj_heap_other (by omega)).trans hBq
    have gW : W.grownBy (w9.putObj D (.deferred none)) none := by
      have b9 := unhide HB9
      have gp := grownBy_putObj' w9 D (.deferred none)
      have gd := grown_trans (grown_trans (unhide HG0) (unhide G1)) (unhide G8)
      have hs := unhide HS
      refine ⟨gp.os.trans (g9.os.trans (b9.os.trans gd.os)), gp.tape.trans (g9.tape.trans (b9.tape.trans gd.tape)), gp.output.trans (g9.output.trans (b9.output.trans gd.output)), Nat.le_trans gd.size (Nat.le_trans b9.size (Nat.le_trans g9.size gp.size)), fun k hk _ => ?_⟩
      have hgd := gd.size
      rw [World.putObj_heap_other (by omega), g9.block k (by have := b9.size; omega) (by simp; omega), b9.block k (by omega) (by show ¬ k = q; omega)]
      exact gd.block k hk (by simp)
    have hQr : Blk .u16 73 (w9.putObj D (.deferred none)) q X := ((unhide HI9).beside g9 (by simp; omega)).same (World.putObj_heap_other (by omega))
    exact ⟨_, (by rw [results_c1 rfl]; simp only [Array.getD_eq_getD_getElem?]; exact run_loadVar_row _ _ 57 57 _ (0, 0) _ hBr Try.underlying57 rfl (by kernel_rfl)), q, rfl, hQr, gW⟩

end Go.Proofs.Ytkefpjbdkhifhaa

namespace Go.Proofs.Ytkefpjbdkhifhaa
open Go.RowKit Go.Shelf

theorem grid_vals {w h : Nat} {f : Nat → Nat → Int} {lo hi : Int} (hf : ∀ y x, y < h → x < w → lo ≤ f y x ∧ f y x ≤ hi) : ∀ v ∈ gridL w h f, lo ≤ v ∧ v ≤ hi := by
  intro v hv
  unfold gridL at hv
  obtain ⟨i, hi', rfl⟩ := List.mem_map.1 hv
  have hi2 : i < w * h := List.mem_range.1 hi'
  have hw : 0 < w := Nat.pos_of_ne_zero (fun e => by subst e; simp at hi2)
  exact hf _ _ (Nat.div_lt_of_lt_mul hi2) (Nat.mod_lt _ hw)
theorem tone_getD {L : List Int} (h0 : ∀ x ∈ L, 0 ≤ x ∧ x ≤ 4095) (i : Nat) : 0 ≤ L.getD i 0 ∧ L.getD i 0 ≤ 4095 := by
  by_cases hi : i < L.length
  · have e : L.getD i 0 = L[i] := by simp [hi]
    rw [e]
    exact h0 _ (List.getElem_mem hi)
  · have e : L.getD i 0 = 0 := by rw [List.getD_eq_getElem?_getD, List.getElem?_eq_none (by omega)]; rfl
    rw [e]
    omega
theorem down_sides {zs : List Int} {w h nw nh : Int} (h1 : nw ≤ w) (h2 : nh ≤ h) : (planeB zs w h && decide (1 ≤ nw ∧ nw ≤ w) && decide (1 ≤ nh ∧ nh ≤ h)) = (planeB zs w h && sidesB nw nh) := by
  cases hp : planeB zs w h with
  | false => rfl
  | true =>
    obtain ⟨a1, a2, _, a4, _⟩ := plane_of hp
    by_cases c1 : 1 ≤ nw
    · by_cases c2 : 1 ≤ nh
      · have hm : nw * nh ≤ w * h := Int.mul_le_mul h1 h2 (by omega) (by omega)
        simp [sidesB, c1, c2, h1, h2]
        omega
      · simp [sidesB, c2]
    · simp [sidesB, c1]

set_option maxRecDepth 20000 in
set_option maxHeartbeats 1600000 in
theorem implCrop (ao : Option Addr) (n cap : Nat) (zs : List Int) (w h nw nh : Int) (W : World) (hr : Rd .i64 W ao n zs) (hn : n ≤ 9223372036854775807) (L : List Int) (HL : Hid (cropG zs w h nw nh = L)) :
    Calls Try.prog 29 #[.slice ao n cap, .int .i64 w, .int .i64 h, .int .i64 nw, .int .i64 nh] W fun e W' => ∃ so sc, e = .returned (.slice so L.length sc) ∧ W'.ownsRow W.heap.size 3 1 (.slice so L.length sc) L.length (L.map (Value.int .i64)) ∧ W.grownBy W' none := by
  obtain ⟨t, HT⟩ : ∃ t, Hid ((decide (nw ≤ w) && decide (nh ≤ h)) = t) := ⟨_, rfl⟩
  have HR := hide hr
  clear hr
  obtain ⟨W0, hW0⟩ : ∃ W0, (W.alloc (.cells #[.int .i64 w, .int .i64 h] 48)).alloc (.cells #[.int .i64 nw, .int .i64 nh] 48) = W0 := ⟨_, rfl⟩
  have HG0 : Hid (W.grownBy W0 none) := by rw [← hW0]; exact grown_alloc (World.grownBy_alloc _ _ _) _
  have b0 : Hid (W0.heap[W.heap.size]? = some (.cells #[.int .i64 w, .int .i64 h] 48 (0, 0))) := by rw [← hW0, Below.heap_alloc _ _ _ (by simp)]; exact heap_alloc_new W _
  have b1 : Hid (W0.heap[W.heap.size + 1]? = some (.cells #[.int .i64 nw, .int .i64 nh] 48 (0, 0))) := by
    rw [← hW0]
    have := heap_alloc_new (W.alloc (.cells #[.int .i64 w, .int .i64 h] 48)) (.cells #[.int .i64 nw, .int .i64 nh] 48)
    unfold Hid
    simpa using this
  have HW := hide hW0
  clear hW0
  go_enter Try.func29, Try.ntmps29
  go_wp2_with fail
  rw [unhide HW]
  refine (covers w h nw nh t HT W0).mono ?_
  rintro e w1 ⟨rfl, g1⟩
  have HG1 := hide (grown_trans (unhide HG0) g1)
  have q0 := grown_atG g1 (unhide b0) (by simp)
  have q1 := grown_atG g1 (unhide b1) (by simp)
  have k0 : w1.cell? ⟨W.heap.size, 0, none⟩ = some (.int .i64 w) := by rw [cell_of_row w1 _ 0 _ _ (0, 0) q0]; rfl
  have k1 : w1.cell? ⟨W.heap.size, 1, none⟩ = some (.int .i64 h) := by rw [cell_of_row w1 _ 1 _ _ (0, 0) q0]; rfl
  have k2 : w1.cell? ⟨W.heap.size + 1, 0, none⟩ = some (.int .i64 nw) := by rw [cell_of_row w1 _ 0 _ _ (0, 0) q1]; rfl
  have k3 : w1.cell? ⟨W.heap.size + 1, 1, none⟩ = some (.int .i64 nh) := by rw [cell_of_row w1 _ 1 _ _ (0, 0) q1]; rfl
  clear g1 q0 q1 b0 b1 HW
  cases t with
  | false =>
    obtain rfl : L = [] := by
      rw [← unhide HL, cropG]
      have h1 := unhide HT
      rw [if_neg]
      intro e
      simp only [Bool.and_eq_true, decide_eq_true_eq, Bool.and_eq_false_iff, decide_eq_false_iff_not] at e h1
      omega
    go_wp2
    go_ret
    exact ⟨none, 0, rfl, ⟨rfl, .inl ⟨rfl, rfl⟩⟩, unhide HG1⟩
  | true =>
    have hc := unhide HT
    simp only [Bool.and_eq_true, decide_eq_true_eq] at hc
    have HC := hide hc
    have HL' : Hid ((if planeB zs w h && sidesB nw nh then (fun L wd _ nw nh => cropL L wd nw nh) zs w.toNat h.toNat nw.toNat nh.toNat else []) = L) := by
      unfold Hid
      rw [← unhide HL, cropG]
      rw [down_sides (unhide HC).1 (unhide HC).2]
    clear hc
    go_wp2_with fail
    refine (remade 67 (fun wd ht nw nh => nw ≤ wd ∧ nh ≤ ht) (fun L wd _ nw nh => cropL L wd nw nh) cropped (enters_of Try.func67 (by kernel_rfl) rfl) ao n cap zs w h nw nh w1 ((unhide HR).grown (unhide HG1)) hn (by have := unhide HC; show _ ∧ _; omega) ?_ L HL').mono ?_
    · intro wd ht nw' nh' hok hlen h1 h2 h0
      have hok' : _ ∧ _ := hok
      refine ⟨gridL_len _ _ _, ?_⟩
      exact grid_vals (fun y x _ _ => tone_getD h0 _)
    · rintro e w2 ⟨so, sc, rfl, o2, g2⟩
      have HO := hide (own_base o2 (unhide HG1).size)
      have HG2 := hide (grown_trans (unhide HG1) g2)
      clear o2 g2
      go_wp2
      go_ret
      exact ⟨_, _, rfl, unhide HO, unhide HG2⟩

set_option maxRecDepth 20000 in
set_option maxHeartbeats 1600000 in
theorem implShrink (ao : Option Addr) (n cap : Nat) (zs : List Int) (w h nw nh : Int) (W : World) (hr : Rd .i64 W ao n zs) (hn : n ≤ 9223372036854775807) (L : List Int) (HL : Hid (shrinkG zs w h nw nh = L)) :
    Calls Try.prog 14 #[.slice ao n cap, .int .i64 w, .int .i64 h, .int .i64 nw, .int .i64 nh] W fun e W' => ∃ so sc, e = .returned (.slice so L.length sc) ∧ W'.ownsRow W.heap.size 3 1 (.slice so L.length sc) L.length (L.map (Value.int .i64)) ∧ W.grownBy W' none := by
  obtain ⟨t, HT⟩ : ∃ t, Hid ((decide (nw ≤ w) && decide (nh ≤ h)) = t) := ⟨_, rfl⟩
  have HR := hide hr
  clear hr
  obtain ⟨W0, hW0⟩ : ∃ W0, (W.alloc (.cells #[.int .i64 w, .int .i64 h] 48)).alloc (.cells #[.int .i64 nw, .int .i64 nh] 48) = W0 := ⟨_, rfl⟩
  have HG0 : Hid (W.grownBy W0 none) := by rw [← hW0]; exact grown_alloc (World.grownBy_alloc _ _ _) _
  have b0 : Hid (W0.heap[W.heap.size]? = some (.cells #[.int .i64 w, .int .i64 h] 48 (0, 0))) := by rw [← hW0, Below.heap_alloc _ _ _ (by simp)]; exact heap_alloc_new W _
  have b1 : Hid (W0.heap[W.heap.size + 1]? = some (.cells #[.int .i64 nw, .int .i64 nh] 48 (0, 0))) := by
    rw [← hW0]
    have := heap_alloc_new (W.alloc (.cells #[.int .i64 w, .int .i64 h] 48)) (.cells #[.int .i64 nw, .int .i64 nh] 48)
    unfold Hid
    simpa using this
  have HW := hide hW0
  clear hW0
  go_enter Try.func14, Try.ntmps14
  go_wp2_with fail
  rw [unhide HW]
  refine (covers w h nw nh t HT W0).mono ?_
  rintro e w1 ⟨rfl, g1⟩
  have HG1 := hide (grown_trans (unhide HG0) g1)
  have q0 := grown_atG g1 (unhide b0) (by simp)
  have q1 := grown_atG g1 (unhide b1) (by simp)
  have k0 : w1.cell? ⟨W.heap.size, 0, none⟩ = some (.int .i64 w) := by rw [cell_of_row w1 _ 0 _ _ (0, 0) q0]; rfl
  have k1 : w1.cell? ⟨W.heap.size, 1, none⟩ = some (.int .i64 h) := by rw [cell_of_row w1 _ 1 _ _ (0, 0) q0]; rfl
  have k2 : w1.cell? ⟨W.heap.size + 1, 0, none⟩ = some (.int .i64 nw) := by rw [cell_of_row w1 _ 0 _ _ (0, 0) q1]; rfl
  have k3 : w1.cell? ⟨W.heap.size + 1, 1, none⟩ = some (.int .i64 nh) := by rw [cell_of_row w1 _ 1 _ _ (0, 0) q1]; rfl
  clear g1 q0 q1 b0 b1 HW
  cases t with
  | false =>
    obtain rfl : L = [] := by
      rw [← unhide HL, shrinkG]
      have h1 := unhide HT
      rw [if_neg]
      intro e
      simp only [Bool.and_eq_true, decide_eq_true_eq, Bool.and_eq_false_iff, decide_eq_false_iff_not] at e h1
      omega
    go_wp2
    go_ret
    exact ⟨none, 0, rfl, ⟨rfl, .inl ⟨rfl, rfl⟩⟩, unhide HG1⟩
  | true =>
    have hc := unhide HT
    simp only [Bool.and_eq_true, decide_eq_true_eq] at hc
    have HC := hide hc
    have HL' : Hid ((if planeB zs w h && sidesB nw nh then (fun L wd ht nw nh => shrinkL L wd ht nw nh) zs w.toNat h.toNat nw.toNat nh.toNat else []) = L) := by
      unfold Hid
      rw [← unhide HL, shrinkG]
      rw [down_sides (unhide HC).1 (unhide HC).2]
    clear hc
    go_wp2_with fail
    refine (remade 46 (fun wd ht nw nh => nw ≤ wd ∧ nh ≤ ht) (fun L wd ht nw nh => shrinkL L wd ht nw nh) shrunk (enters_of Try.func46 (by kernel_rfl) rfl) ao n cap zs w h nw nh w1 ((unhide HR).grown (unhide HG1)) hn (by have := unhide HC; show _ ∧ _; omega) ?_ L HL').mono ?_
    · intro wd ht nw' nh' hok hlen h1 h2 h0
      have hok' : _ ∧ _ := hok
      refine ⟨gridL_len _ _ _, ?_⟩
      exact grid_vals (fun y x hy hx => shrink_in hlen h1 h2 h0 hy hx)
    · rintro e w2 ⟨so, sc, rfl, o2, g2⟩
      have HO := hide (own_base o2 (unhide HG1).size)
      have HG2 := hide (grown_trans (unhide HG1) g2)
      clear o2 g2
      go_wp2
      go_ret
      exact ⟨_, _, rfl, unhide HO, unhide HG2⟩

set_option maxRecDepth 20000 in
set_option maxHeartbeats 1600000 in
theorem implGrow (ao : Option Addr) (n cap : Nat) (zs : List Int) (w h nw nh : Int) (W : World) (hr : Rd .i64 W ao n zs) (hn : n ≤ 9223372036854775807) (L : List Int) (HL : Hid (growG zs w h nw nh = L)) :
    Calls Try.prog 19 #[.slice ao n cap, .int .i64 w, .int .i64 h, .int .i64 nw, .int .i64 nh] W fun e W' => ∃ so sc, e = .returned (.slice so L.length sc) ∧ W'.ownsRow W.heap.size 3 1 (.slice so L.length sc) L.length (L.map (Value.int .i64)) ∧ W.grownBy W' none := by
  obtain ⟨t, HT⟩ : ∃ t, Hid ((decide (w ≤ nw) && decide (h ≤ nh)) = t) := ⟨_, rfl⟩
  have HR := hide hr
  clear hr
  obtain ⟨W0, hW0⟩ : ∃ W0, (W.alloc (.cells #[.int .i64 w, .int .i64 h] 48)).alloc (.cells #[.int .i64 nw, .int .i64 nh] 48) = W0 := ⟨_, rfl⟩
  have HG0 : Hid (W.grownBy W0 none) := by rw [← hW0]; exact grown_alloc (World.grownBy_alloc _ _ _) _
  have b0 : Hid (W0.heap[W.heap.size]? = some (.cells #[.int .i64 w, .int .i64 h] 48 (0, 0))) := by rw [← hW0, Below.heap_alloc _ _ _ (by simp)]; exact heap_alloc_new W _
  have b1 : Hid (W0.heap[W.heap.size + 1]? = some (.cells #[.int .i64 nw, .int .i64 nh] 48 (0, 0))) := by
    rw [← hW0]
    have := heap_alloc_new (W.alloc (.cells #[.int .i64 w, .int .i64 h] 48)) (.cells #[.int .i64 nw, .int .i64 nh] 48)
    unfold Hid
    simpa using this
  have HW := hide hW0
  clear hW0
  go_enter Try.func19, Try.ntmps19
  go_wp2_with fail
  rw [unhide HW]
  refine (covers nw nh w h t HT W0).mono ?_
  rintro e w1 ⟨rfl, g1⟩
  have HG1 := hide (grown_trans (unhide HG0) g1)
  have q0 := grown_atG g1 (unhide b0) (by simp)
  have q1 := grown_atG g1 (unhide b1) (by simp)
  have k0 : w1.cell? ⟨W.heap.size, 0, none⟩ = some (.int .i64 w) := by rw [cell_of_row w1 _ 0 _ _ (0, 0) q0]; rfl
  have k1 : w1.cell? ⟨W.heap.size, 1, none⟩ = some (.int .i64 h) := by rw [cell_of_row w1 _ 1 _ _ (0, 0) q0]; rfl
  have k2 : w1.cell? ⟨W.heap.size + 1, 0, none⟩ = some (.int .i64 nw) := by rw [cell_of_row w1 _ 0 _ _ (0, 0) q1]; rfl
  have k3 : w1.cell? ⟨W.heap.size + 1, 1, none⟩ = some (.int .i64 nh) := by rw [cell_of_row w1 _ 1 _ _ (0, 0) q1]; rfl
  clear g1 q0 q1 b0 b1 HW
  cases t with
  | false =>
    obtain rfl : L = [] := by
      rw [← unhide HL, growG]
      have h1 := unhide HT
      rw [if_neg]
      intro e
      simp only [Bool.and_eq_true, decide_eq_true_eq, Bool.and_eq_false_iff, decide_eq_false_iff_not] at e h1
      omega
    go_wp2
    go_ret
    exact ⟨none, 0, rfl, ⟨rfl, .inl ⟨rfl, rfl⟩⟩, unhide HG1⟩
  | true =>
    have hc := unhide HT
    simp only [Bool.and_eq_true, decide_eq_true_eq] at hc
    have HC := hide hc
    have HL' : Hid ((if planeB zs w h && sidesB nw nh then (fun L wd ht nw nh => growL L wd ht nw nh) zs w.toNat h.toNat nw.toNat nh.toNat else []) = L) := by
      unfold Hid
      rw [← unhide HL, growG]
      cases hp : planeB zs w h <;> cases hs : sidesB nw nh <;> simp [(unhide HC).1, (unhide HC).2]
    clear hc
    go_wp2_with fail
    refine (remade 51 (fun wd ht nw nh => wd ≤ nw ∧ ht ≤ nh) (fun L wd ht nw nh => growL L wd ht nw nh) grown (enters_of Try.func51 (by kernel_rfl) rfl) ao n cap zs w h nw nh w1 ((unhide HR).grown (unhide HG1)) hn (by have := unhide HC; show _ ∧ _; omega) ?_ L HL').mono ?_
    · intro wd ht nw' nh' hok hlen h1 h2 h0
      have hok' : _ ∧ _ := hok
      refine ⟨gridL_len _ _ _, ?_⟩
      exact grid_vals (fun y x _ _ => tone_getD h0 _)
    · rintro e w2 ⟨so, sc, rfl, o2, g2⟩
      have HO := hide (own_base o2 (unhide HG1).size)
      have HG2 := hide (grown_trans (unhide HG1) g2)
      clear o2 g2
      go_wp2
      go_ret
      exact ⟨_, _, rfl, unhide HO, unhide HG2⟩

set_option maxRecDepth 20000 in
set_option maxHeartbeats 1600000 in
theorem implPad (ao : Option Addr) (n cap : Nat) (zs : List Int) (w h nw nh : Int) (W : World) (hr : Rd .i64 W ao n zs) (hn : n ≤ 9223372036854775807) (L : List Int) (HL : Hid (padG zs w h nw nh = L)) :
    Calls Try.prog 27 #[.slice ao n cap, .int .i64 w, .int .i64 h, .int .i64 nw, .int .i64 nh] W fun e W' => ∃ so sc, e = .returned (.slice so L.length sc) ∧ W'.ownsRow W.heap.size 3 1 (.slice so L.length sc) L.length (L.map (Value.int .i64)) ∧ W.grownBy W' none := by
  obtain ⟨t, HT⟩ : ∃ t, Hid ((decide (w ≤ nw) && decide (h ≤ nh)) = t) := ⟨_, rfl⟩
  have HR := hide hr
  clear hr
  obtain ⟨W0, hW0⟩ : ∃ W0, (W.alloc (.cells #[.int .i64 w, .int .i64 h] 48)).alloc (.cells #[.int .i64 nw, .int .i64 nh] 48) = W0 := ⟨_, rfl⟩
  have HG0 : Hid (W.grownBy W0 none) := by rw [← hW0]; exact grown_alloc (World.grownBy_alloc _ _ _) _
  have b0 : Hid (W0.heap[W.heap.size]? = some (.cells #[.int .i64 w, .int .i64 h] 48 (0, 0))) := by rw [← hW0, Below.heap_alloc _ _ _ (by simp)]; exact heap_alloc_new W _
  have b1 : Hid (W0.heap[W.heap.size + 1]? = some (.cells #[.int .i64 nw, .int .i64 nh] 48 (0, 0))) := by
    rw [← hW0]
    have := heap_alloc_new (W.alloc (.cells #[.int .i64 w, .int .i64 h] 48)) (.cells #[.int .i64 nw, .int .i64 nh] 48)
    unfold Hid
    simpa using this
  have HW := hide hW0
  clear hW0
  go_enter Try.func27, Try.ntmps27
  go_wp2_with fail
  rw [unhide HW]
  refine (covers nw nh w h t HT W0).mono ?_
  rintro e w1 ⟨rfl, g1⟩
  have HG1 := hide (grown_trans (unhide HG0) g1)
  have q0 := grown_atG g1 (unhide b0) (by simp)
  have q1 := grown_atG g1 (unhide b1) (by simp)
  have k0 : w1.cell? ⟨W.heap.size, 0, none⟩ = some (.int .i64 w) := by rw [cell_of_row w1 _ 0 _ _ (0, 0) q0]; rfl
  have k1 : w1.cell? ⟨W.heap.size, 1, none⟩ = some (.int .i64 h) := by rw [cell_of_row w1 _ 1 _ _ (0, 0) q0]; rfl
  have k2 : w1.cell? ⟨W.heap.size + 1, 0, none⟩ = some (.int .i64 nw) := by rw [cell_of_row w1 _ 0 _ _ (0, 0) q1]; rfl
  have k3 : w1.cell? ⟨W.heap.size + 1, 1, none⟩ = some (.int .i64 nh) := by rw [cell_of_row w1 _ 1 _ _ (0, 0) q1]; rfl
  clear g1 q0 q1 b0 b1 HW
  cases t with
  | false =>
    obtain rfl : L = [] := by
      rw [← unhide HL, padG]
      have h1 := unhide HT
      rw [if_neg]
      intro e
      simp only [Bool.and_eq_true, decide_eq_true_eq, Bool.and_eq_false_iff, decide_eq_false_iff_not] at e h1
      omega
    go_wp2
    go_ret
    exact ⟨none, 0, rfl, ⟨rfl, .inl ⟨rfl, rfl⟩⟩, unhide HG1⟩
  | true =>
    have hc := unhide HT
    simp only [Bool.and_eq_true, decide_eq_true_eq] at hc
    have HC := hide hc
    have HL' : Hid ((if planeB zs w h && sidesB nw nh then (fun L wd ht nw nh => padL L wd ht nw nh) zs w.toNat h.toNat nw.toNat nh.toNat else []) = L) := by
      unfold Hid
      rw [← unhide HL, padG]
      cases hp : planeB zs w h <;> cases hs : sidesB nw nh <;> simp [(unhide HC).1, (unhide HC).2]
    clear hc
    go_wp2_with fail
    refine (remade 65 (fun wd ht nw nh => wd ≤ nw ∧ ht ≤ nh) (fun L wd ht nw nh => padL L wd ht nw nh) padded (enters_of Try.func65 (by kernel_rfl) rfl) ao n cap zs w h nw nh w1 ((unhide HR).grown (unhide HG1)) hn (by have := unhide HC; show _ ∧ _; omega) ?_ L HL').mono ?_
    · intro wd ht nw' nh' hok hlen h1 h2 h0
      have hok' : _ ∧ _ := hok
      refine ⟨gridL_len _ _ _, ?_⟩
      exact grid_vals (fun y x _ _ => tone_getD h0 _)
    · rintro e w2 ⟨so, sc, rfl, o2, g2⟩
      have HO := hide (own_base o2 (unhide HG1).size)
      have HG2 := hide (grown_trans (unhide HG1) g2)
      clear o2 g2
      go_wp2
      go_ret
      exact ⟨_, _, rfl, unhide HO, unhide HG2⟩

end Go.Proofs.Ytkefpjbdkhifhaa
