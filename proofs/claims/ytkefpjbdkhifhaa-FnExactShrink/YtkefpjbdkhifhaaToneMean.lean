/-
  Means in the program (written by gen_tone4.py).
-/
import Derived.Test.YtkefpjbdkhifhaaToneSpan
namespace Go.Proofs.Ytkefpjbdkhifhaa
open Go.RowKit

theorem divRound16 (s : Int) (n : Nat) (u : Int) (hs : 0 ≤ s ∧ s ≤ 1000000000000) (hn : 1 ≤ n ∧ n ≤ 1000000000) (hu : Hid (meanI s n = u)) (w : World) :
    Calls Try.prog 90 #[.int .i64 s, .int .i64 (n : Int)] w fun e w' => e = .returned (.int .i64 u) ∧ w = w' := by
  have k1 : IntKind.i64.wrap (2 * s) = 2 * s := i64_in _ (by omega)
  have k2 : IntKind.i64.wrap (2 * s + (n : Int)) = 2 * s + (n : Int) := i64_in _ (by omega)
  have k3 : IntKind.i64.wrap (2 * (n : Int)) = 2 * (n : Int) := i64_in _ (by omega)
  have ht : (2 * s + (n : Int)).tdiv (2 * (n : Int)) = u := by rw [Int.tdiv_eq_ediv_of_nonneg (by omega)]; exact unhide hu
  have hb : 0 ≤ u ∧ u ≤ 2 * s + n := by
    rw [← unhide hu, meanI]
    exact ⟨Int.ediv_nonneg (by omega) (by omega), Int.ediv_le_self _ (by omega)⟩
  have k4 := i64_in u (by omega)
  have z1 : (2 * (n : Int) == 0) = false := beq_eq_false_iff_ne.2 (by omega)
  have z2 : (2 * (n : Int) == -1) = false := beq_eq_false_iff_ne.2 (by omega)
  have z3 : ¬ n = 0 := by omega
  go_enter Try.func90, Try.ntmps90
  go_wp2
  go_ret
  exact ⟨rfl, rfl⟩

set_option maxRecDepth 20000 in
set_option maxHeartbeats 3200000 in
theorem meanOfT (ao : Option Addr) (n cap : Nat) (zs : List Int) (c : Nat) (u : Int) (W : World) (hr : Rd .u16 W ao n zs) (hn : n ≤ 1024) (h0 : ∀ i, 0 ≤ zs.getD i 0 ∧ zs.getD i 0 ≤ 5000000) (hc : 1 ≤ c ∧ c ≤ 10000000) (HU : Hid (meanI zs.sum c = u)) :
    Calls Try.prog 87 #[.slice ao n cap, .int .i64 (c : Int)] W fun e W' => e = .returned (.int .i64 u) ∧ W.grownBy W' none := by
  have HR := hide hr
  have HZ := hide hr.1
  have H0 := hide h0
  clear hr h0
  go_enter Try.func87, Try.ntmps87
  go_wp2
  go_loopw [5, 10] (fun tv iv wr => ∃ (k : Nat) (t : Int), k ≤ n ∧ tv = .int .i64 t ∧ iv = .int .i64 k ∧ Hid ((zs.take k).sum = t) ∧ (0 ≤ t ∧ t ≤ 5000000 * k) ∧ Hid (W.grownBy wr none)) (fun _ iv _ => n - (intOf iv).toNat)
  case atStart => exact ⟨0, 0, by omega, rfl, by go_num, by simp [Hid], by omega, World.grownBy.refl _ _⟩
  case round =>
    obtain ⟨k, t, hk, rfl, rfl, HT, ht, HGW⟩ := hrel
    by_cases hlt : k < n
    · have hkI : (k : Int) < (n : Int) := by omega
      obtain ⟨bb, off, rfl, hc'⟩ := ((unhide HR).grown (unhide HGW)).2 k hlt
      obtain ⟨z, HX⟩ : ∃ z, Hid (zs.getD k 0 = z) := ⟨_, rfl⟩
      have hz := unhide H0 k
      rw [unhide HX] at hc' hz
      have e1 := i64_in z (by omega)
      have e2 := i64_in (t + z) (by omega)
      have e3 := i64_in ((k : Int) + 1) (by omega)
      have HT' : Hid ((zs.take (k + 1)).sum = t + z) := by
        unfold Hid
        have hl : k < zs.length := by rw [unhide HZ]; exact hlt
        rw [List.take_succ_eq_append_getElem hl, List.sum_append, unhide HT]
        have : zs.getD k 0 = zs[k] := by simp [hl]
        rw [← unhide HX, this]
        simp
      go_wp2
      go_roundw
      case rel => exact ⟨k + 1, t + z, by omega, rfl, by go_num, HT', by omega, HGW⟩
      case measure => simp [intOf]; omega
    · obtain rfl : n = k := by omega
      have hT : zs.sum = t := by rw [← unhide HT, ← unhide HZ, List.take_length]
      rw [hT] at HU
      obtain ⟨x, HXX⟩ : ∃ x : Int, Hid (2 * t + (c : Int) = x) := ⟨_, rfl⟩
      obtain ⟨d, HD⟩ : ∃ d : Int, Hid (2 * (c : Int) = d) := ⟨_, rfl⟩
      clear HT hT
      go_wp2_with fail
      refine (divRound16 t c u (by omega) (by omega) HU wr).mono ?_
      rintro e wr ⟨rfl, rfl⟩
      go_wp2
      go_ret
      exact ⟨rfl, unhide HGW⟩

set_option maxRecDepth 20000 in
set_option maxHeartbeats 3200000 in
theorem fillT (q off nw cap gs so ms cps deep : Nat) (X S : List Int) (W : World) (hnw : 1 ≤ nw ∧ nw ≤ 1024) (hms : 1 ≤ ms ∧ ms ≤ 1024) (hdp : 1 ≤ deep ∧ deep ≤ 1024) (hcp : ms ≤ cps)
    (hQ : Blk .u16 73 W q (laidTo X off)) (hfit : off + nw ≤ X.length) (hAt : ∀ x, x < nw → X.getD (off + x) 0 = (meansL S nw deep).getD x 0)
    (hS : Rd .u16 W (some ⟨gs, so, none⟩) ms S) (hne : gs ≠ q) (h0 : ∀ i, 0 ≤ S.getD i 0 ∧ S.getD i 0 ≤ 4095 * deep) :
    Calls Try.prog 73 #[.slice (some ⟨q, off, none⟩) nw cap, .slice (some ⟨gs, so, none⟩) ms cps, .int .i64 (deep : Int)] W fun e W' => (∃ v, e = .returned v) ∧ Blk .u16 73 W' q (laidTo X (off + nw)) ∧ W.grownBy W' (some q) := by
  have HQ := hide hQ
  have HFIT := hide hfit
  have HAT := hide hAt
  have HSR := hide hS
  have HSL := hide hS.1
  have H0 := hide h0
  have HQL : Hid (q < W.heap.size) := hQ.lt
  clear hQ hfit hAt hS h0
  go_enter Try.func73, Try.ntmps73
  go_wp2
  go_loopw [10] (fun cv wr => ∃ (c : Nat), c ≤ nw ∧ cv = .int .i64 c ∧ Hid (Blk .u16 73 wr q (laidTo X (off + c))) ∧ Hid (W.grownBy wr (some q))) (fun cv _ => nw - (intOf cv).toNat)
  case atStart => exact ⟨0, by omega, by go_num, HQ, World.grownBy.refl _ _⟩
  case round =>
    clear HQ
    obtain ⟨c, hc, rfl, HQR, HGR⟩ := hrel
    by_cases hlt : c < nw
    · have hcI : (c : Int) < (nw : Int) := by omega
      have e1 := i64_in ((c : Int) + 1) (by omega)
      obtain ⟨a, HA⟩ : ∃ a, Hid (fromN ms nw c = a) := ⟨_, rfl⟩
      obtain ⟨b, HB⟩ : ∃ b, Hid (toN ms nw c = b) := ⟨_, rfl⟩
      have hab : a < b := by rw [← unhide HA, ← unhide HB]; exact from_to hnw.1 hms.1
      have hbm : b ≤ ms := by rw [← unhide HB]; exact to_le hlt
      obtain ⟨ct, HCT⟩ : ∃ k, Hid (b - a = k) := ⟨_, rfl⟩
      obtain ⟨dc, HDC⟩ : ∃ k : Nat, Hid (deep * ct = k) := ⟨_, rfl⟩
      have hct : 1 ≤ ct ∧ ct ≤ 1024 := by have := unhide HCT; omega
      have hdc : 1 ≤ dc ∧ dc ≤ 1048576 := by
        rw [← unhide HDC]
        exact ⟨Nat.mul_le_mul hdp.1 hct.1, Nat.mul_le_mul hdp.2 hct.2⟩
      obtain ⟨P, HP⟩ : ∃ P, Hid ((S.drop a).take ct = P) := ⟨_, rfl⟩
      have HPL : Hid (P.length = ct) := by unfold Hid; rw [← unhide HP]; have := unhide HSL; have := unhide HCT; simp; omega
      have HPS : Hid (P.sum = sumK S 0 a ct) := by unfold Hid; rw [← unhide HP]; exact sum_take ct (by have := unhide HSL; have := unhide HCT; omega)
      obtain ⟨u, HU⟩ : ∃ u, Hid (meanI P.sum dc = u) := ⟨_, rfl⟩
      have HP0 : Hid (∀ i, 0 ≤ P.getD i 0 ∧ P.getD i 0 ≤ 5000000) := fun i => by
        by_cases hi : i < ct
        · have e : P.getD i 0 = S.getD (a + i) 0 := by rw [← unhide HP]; simp [List.getElem?_take_of_lt hi]
          have := unhide H0 (a + i)
          rw [e]
          have h4 : (4095 : Int) * deep ≤ 4095 * 1024 := Int.mul_le_mul_of_nonneg_left (by omega) (by omega)
          omega
        · have e : P.getD i 0 = 0 := by rw [List.getD_eq_getElem?_getD, List.getElem?_eq_none (by rw [unhide HPL]; omega)]; rfl
          rw [e]
          omega
      have hu : 0 ≤ u ∧ u ≤ 4095 := by
        have h1 := sumK_in (L := S) (at0 := 0) (a := a) (lo := 0) (hi := 4095 * deep) ct (fun j _ => by have := unhide H0 (0 + (a + j)); exact this)
        rw [← unhide HPS] at h1
        rw [← unhide HU]
        refine ⟨mean_ge (by omega) (by rw [Int.mul_zero]; have := h1.1; rw [Int.mul_zero] at this; exact this), mean_le (by omega) ?_⟩
        refine Int.le_trans h1.2 ?_
        rw [← unhide HDC]
        push_cast
        refine Int.le_of_eq ?_
        ac_rfl
      have HVAL : Hid (X.getD (off + c) 0 = u) := by
        unfold Hid
        rw [unhide HAT c hlt, meansL_at S nw deep c hlt, unhide HSL, unhide HA, unhide HB, unhide HCT, unhide HDC, ← unhide HPS, unhide HU]
      have eu := u16_in u (by omega)
      have k1 : IntKind.i64.wrap ((deep : Int) * (ct : Int)) = (dc : Int) := by
        have e : (deep : Int) * (ct : Int) = (dc : Int) := by have := unhide HDC; exact_mod_cast this
        rw [e, i64_in _ (by omega)]
      go_wp2_with fail
      refine (spanOf c nw ms a b hlt hnw.2 hms HA HB wr).mono ?_
      rintro e w1 ⟨rfl, g1⟩
      obtain ⟨W2, hW2⟩ : ∃ W2, w1.alloc (.cells #[.int .i64 (a : Int), .int .i64 (b : Int)] 86) = W2 := ⟨_, rfl⟩
      have G2 : Hid (wr.grownBy W2 none) := by rw [← hW2]; exact grown_alloc g1 _
      have b7 : Hid (W2.heap[w1.heap.size]? = some (.cells #[.int .i64 (a : Int), .int .i64 (b : Int)] 86 (0, 0))) := by rw [← hW2]; exact heap_alloc_new w1 _
      have HW2 := hide hW2
      clear hW2 g1
      go_wp2
      rw [unhide HW2]
      generalize w1.heap.size = s7 at *
      clear HW2
      have i0 : (0 : Int) ≤ (a : Int) := by omega
      have i1 : (a : Int) ≤ (b : Int) := by omega
      have i2 : (b : Int) ≤ (cps : Int) := by omega
      have i3 : ¬ cps = a := by omega
      have j0 : (0 : Int) ≤ (c : Int) := by omega
      refine wp_region_noPanic ?_
      refine wp_region_tailL 20 (fun W => W.heap[s7]? = some (.cells #[.int .i64 (a : Int), .int .i64 (b : Int)] 86 (0, 0))) [true, true, true, true, true, true, true, true, true, true, false, false, false, false, false, false] (by kernel_rfl) (fun _ _ _ _ _ h => h) rfl (by decide) (by kernel_rfl) (unhide b7) ?_
      have b7 : Hid (W2.drew.heap[s7]? = some (.cells #[.int .i64 (a : Int), .int .i64 (b : Int)] 86 (0, 0))) := unhide b7
      have GD : Hid (wr.grownBy W2.drew none) := grown_drew (unhide G2)
      generalize W2.drew = w4 at *
      clear G2
      refine heldF_take (v := ?_) (Or.inl ⟨by rfl, ?_⟩) ?_
      rotate_left 1
      · intro w' hSw
        go_simp
        try with_reducible rfl
      try simp only [Act.put, List.setIfInBounds_toArray, List.set_cons_zero, List.set_cons_succ]
      refine heldF_take (v := ?_) (Or.inl ⟨by rfl, ?_⟩) ?_
      rotate_left 1
      · intro w' hSw
        go_simp
        try with_reducible rfl
      try simp only [Act.put, List.setIfInBounds_toArray, List.set_cons_zero, List.set_cons_succ]
      refine heldF_take (v := ?_) (Or.inl ⟨by rfl, ?_⟩) ?_
      rotate_left 1
      · intro w' hSw
        go_simp
        try with_reducible rfl
      try simp only [Act.put, List.setIfInBounds_toArray, List.set_cons_zero, List.set_cons_succ]
      refine heldF_take (v := ?_) (Or.inl ⟨by rfl, ?_⟩) ?_
      rotate_left 1
      · intro w' hSw
        go_simp
        try with_reducible rfl
      try simp only [Act.put, List.setIfInBounds_toArray, List.set_cons_zero, List.set_cons_succ]
      refine heldF_take (v := ?_) (Or.inl ⟨by rfl, ?_⟩) ?_
      rotate_left 1
      · intro w' hSw
        have ca : w'.cell? ⟨s7, 0, none⟩ = some (.int .i64 (a : Int)) := by rw [cell_of_row w' _ 0 _ _ (0, 0) hSw]; rfl
        have cb : w'.cell? ⟨s7, 1, none⟩ = some (.int .i64 (b : Int)) := by rw [cell_of_row w' _ 1 _ _ (0, 0) hSw]; rfl
        go_simp
        try with_reducible rfl
      try simp only [Act.put, List.setIfInBounds_toArray, List.set_cons_zero, List.set_cons_succ]
      refine heldF_take (v := ?_) (Or.inl ⟨by rfl, ?_⟩) ?_
      rotate_left 1
      · intro w' hSw
        go_simp
        try with_reducible rfl
      try simp only [Act.put, List.setIfInBounds_toArray, List.set_cons_zero, List.set_cons_succ]
      refine heldF_take (v := ?_) (Or.inl ⟨by rfl, ?_⟩) ?_
      rotate_left 1
      · intro w' hSw
        have ca : w'.cell? ⟨s7, 0, none⟩ = some (.int .i64 (a : Int)) := by rw [cell_of_row w' _ 0 _ _ (0, 0) hSw]; rfl
        have cb : w'.cell? ⟨s7, 1, none⟩ = some (.int .i64 (b : Int)) := by rw [cell_of_row w' _ 1 _ _ (0, 0) hSw]; rfl
        go_simp
        try with_reducible rfl
      try simp only [Act.put, List.setIfInBounds_toArray, List.set_cons_zero, List.set_cons_succ]
      refine heldF_take (v := ?_) (Or.inl ⟨by rfl, ?_⟩) ?_
      rotate_left 1
      · intro w' hSw
        go_simp
        try with_reducible rfl
      try simp only [Act.put, List.setIfInBounds_toArray, List.set_cons_zero, List.set_cons_succ]
      refine heldF_take (v := ?_) (Or.inl ⟨by rfl, ?_⟩) ?_
      rotate_left 1
      · intro w' hSw
        go_simp
        try with_reducible rfl
      try simp only [Act.put, List.setIfInBounds_toArray, List.set_cons_zero, List.set_cons_succ]
      refine heldF_take (v := .agg #[.int .i64 (a : Int), .int .i64 (b : Int)]) (Or.inl ⟨by rfl, ?_⟩) ?_
      · intro w' hSw
        exact exec_row 86 _ rfl s7 rfl _ _ hSw _ Try.underlying86 rfl (by kernel_rfl)
      try simp only [Act.put, List.setIfInBounds_toArray, List.set_cons_zero, List.set_cons_succ]
      refine heldF_skip ?_
      refine heldF_skip ?_
      refine heldF_skip ?_
      refine heldF_skip ?_
      refine heldF_skip ?_
      refine heldF_skip ?_
      refine heldF_nil ?_
      refine tailL_skip ?_
      refine tailL_skip ?_
      refine tailL_skip ?_
      refine tailL_skip ?_
      refine tailL_skip ?_
      refine tailL_skip ?_
      refine tailL_skip ?_
      refine tailL_skip ?_
      refine tailL_skip ?_
      refine tailL_skip ?_
      refine tailL_step (fun K hK => ?_)
      go_simp
      refine (spanCount a b ct (by omega) (by omega) HCT w4).mono ?_
      rintro e w5 ⟨rfl, g5⟩
      have S5 : w5.heap[s7]? = _ := grown_atG g5 (unhide b7) (by simp)
      refine hK.out _ _ (.inr S5) ?_
      clear hK K
      try simp only [Act.put, List.setIfInBounds_toArray, List.set_cons_zero, List.set_cons_succ]
      refine tailL_step (fun K hK => ?_)
      go_simp
      refine hK.out _ _ (.inr S5) ?_
      clear hK K
      try simp only [Act.put, List.setIfInBounds_toArray, List.set_cons_zero, List.set_cons_succ]
      refine tailL_step (fun K hK => ?_)
      go_simp
      rw [show b - a = ct from unhide HCT]
      refine (meanOfT (some ⟨gs, so + a, none⟩) ct _ P dc u w5 ?_ hct.2 (unhide HP0) (by omega) HU).mono ?_
      · have hr5 := ((unhide HSR).beside (unhide HGR) (fun _ b' o' e => by simp at e; rw [← e.1]; exact hne)).grown (grown_trans (unhide GD) g5)
        refine ⟨unhide HPL, fun i hi => ⟨gs, so + a, rfl, ?_⟩⟩
        obtain ⟨b', o', e, hcc⟩ := hr5.2 (a + i) (by have := unhide HCT; omega)
        simp only [Option.some.injEq, Addr.mk.injEq, and_true] at e
        obtain ⟨rfl, rfl⟩ := e
        rw [Nat.add_assoc, hcc, ← unhide HP]
        simp [List.getElem?_take_of_lt hi]
      rintro e w6 ⟨rfl, g6⟩
      have S6 : w6.heap[s7]? = _ := grown_atG g6 S5 (by simp)
      refine hK.out _ _ (.inr S6) ?_
      clear hK K
      try simp only [Act.put, List.setIfInBounds_toArray, List.set_cons_zero, List.set_cons_succ]
      refine tailL_step (fun K hK => ?_)
      go_simp
      refine hK.out _ _ (.inr S6) ?_
      clear hK K
      try simp only [Act.put, List.setIfInBounds_toArray, List.set_cons_zero, List.set_cons_succ]
      refine tailL_step (fun K hK => ?_)
      go_simp
      refine hK.out _ _ (.inr S6) ?_
      clear hK K
      try simp only [Act.put, List.setIfInBounds_toArray, List.set_cons_zero, List.set_cons_succ]
      refine tailL_step (fun K hK => ?_)
      have HQ5 : Hid (Blk .u16 73 w6 q (laidTo X (off + c))) := (unhide HQR).grown (grown_trans (unhide GD) (grown_trans g5 g6))
      have cq := (unhide HQ5).cell (off + c) (by rw [laidTo_len X (off + c) (by have := unhide HFIT; omega)]; have := unhide HFIT; omega)
      have fq := (unhide HQ5).frozen (off + c)
      go_simp
      refine hK.out _ _ (.inl rfl) ?_
      clear hK K
      refine tailL_nil (NoPanic.normal ?_)
      try simp only [Act.put]
      have HQ9 : Hid (Blk .u16 73 (w6.setCell ⟨q, off + c, none⟩ (.int .u16 u)) q (laidTo X (off + (c + 1)))) := by
        unfold Hid
        rw [← Nat.add_assoc, ← laidTo_set X (off + c) (by have := unhide HFIT; omega) u (unhide HVAL)]
        exact (unhide HQ5).set (off + c) u
      have HG9 : Hid (W.grownBy (w6.setCell ⟨q, off + c, none⟩ (.int .u16 u)) (some q)) := grown_trans (unhide HGR) (grown_trans (grown_any (grown_trans (unhide GD) (grown_trans g5 g6))) (grown_set w6 q (off + c) (.int .u16 u)))
      go_wp2
      go_roundw
      case rel => exact ⟨c + 1, by omega, by go_num, HQ9, HG9⟩
      case measure => simp [intOf]; omega
    · obtain rfl : nw = c := by omega
      go_wp2
      go_end0
      exact ⟨⟨_, rfl⟩, unhide HQR, unhide HGR⟩

set_option maxRecDepth 20000 in
set_option maxHeartbeats 3200000 in
theorem meanOfI (ao : Option Addr) (n cap : Nat) (zs : List Int) (c : Nat) (u : Int) (W : World) (hr : Rd .i64 W ao n zs) (hn : n ≤ 1024) (h0 : ∀ i, 0 ≤ zs.getD i 0 ∧ zs.getD i 0 ≤ 5000000) (hc : 1 ≤ c ∧ c ≤ 10000000) (HU : Hid (meanI zs.sum c = u)) :
    Calls Try.prog 89 #[.slice ao n cap, .int .i64 (c : Int)] W fun e W' => e = .returned (.int .i64 u) ∧ W.grownBy W' none := by
  have HR := hide hr
  have HZ := hide hr.1
  have H0 := hide h0
  clear hr h0
  go_enter Try.func89, Try.ntmps89
  go_wp2
  go_loopw [5, 10] (fun tv iv wr => ∃ (k : Nat) (t : Int), k ≤ n ∧ tv = .int .i64 t ∧ iv = .int .i64 k ∧ Hid ((zs.take k).sum = t) ∧ (0 ≤ t ∧ t ≤ 5000000 * k) ∧ Hid (W.grownBy wr none)) (fun _ iv _ => n - (intOf iv).toNat)
  case atStart => exact ⟨0, 0, by omega, rfl, by go_num, by simp [Hid], by omega, World.grownBy.refl _ _⟩
  case round =>
    obtain ⟨k, t, hk, rfl, rfl, HT, ht, HGW⟩ := hrel
    by_cases hlt : k < n
    · have hkI : (k : Int) < (n : Int) := by omega
      obtain ⟨bb, off, rfl, hc'⟩ := ((unhide HR).grown (unhide HGW)).2 k hlt
      obtain ⟨z, HX⟩ : ∃ z, Hid (zs.getD k 0 = z) := ⟨_, rfl⟩
      have hz := unhide H0 k
      rw [unhide HX] at hc' hz
      have e1 := i64_in z (by omega)
      have e2 := i64_in (t + z) (by omega)
      have e3 := i64_in ((k : Int) + 1) (by omega)
      have HT' : Hid ((zs.take (k + 1)).sum = t + z) := by
        unfold Hid
        have hl : k < zs.length := by rw [unhide HZ]; exact hlt
        rw [List.take_succ_eq_append_getElem hl, List.sum_append, unhide HT]
        have : zs.getD k 0 = zs[k] := by simp [hl]
        rw [← unhide HX, this]
        simp
      go_wp2
      go_roundw
      case rel => exact ⟨k + 1, t + z, by omega, rfl, by go_num, HT', by omega, HGW⟩
      case measure => simp [intOf]; omega
    · obtain rfl : n = k := by omega
      have hT : zs.sum = t := by rw [← unhide HT, ← unhide HZ, List.take_length]
      rw [hT] at HU
      obtain ⟨x, HXX⟩ : ∃ x : Int, Hid (2 * t + (c : Int) = x) := ⟨_, rfl⟩
      obtain ⟨d, HD⟩ : ∃ d : Int, Hid (2 * (c : Int) = d) := ⟨_, rfl⟩
      clear HT hT
      go_wp2_with fail
      refine (divRound16 t c u (by omega) (by omega) HU wr).mono ?_
      rintro e wr ⟨rfl, rfl⟩
      go_wp2
      go_ret
      exact ⟨rfl, unhide HGW⟩

set_option maxRecDepth 20000 in
set_option maxHeartbeats 3200000 in
theorem fillI (q off nw cap gs so ms cps deep : Nat) (X S : List Int) (W : World) (hnw : 1 ≤ nw ∧ nw ≤ 1024) (hms : 1 ≤ ms ∧ ms ≤ 1024) (hdp : 1 ≤ deep ∧ deep ≤ 1024) (hcp : ms ≤ cps)
    (hQ : Blk .u16 73 W q (laidTo X off)) (hfit : off + nw ≤ X.length) (hAt : ∀ x, x < nw → X.getD (off + x) 0 = (meansL S nw deep).getD x 0)
    (hS : Rd .i64 W (some ⟨gs, so, none⟩) ms S) (hne : gs ≠ q) (h0 : ∀ i, 0 ≤ S.getD i 0 ∧ S.getD i 0 ≤ 4095 * deep) :
    Calls Try.prog 75 #[.slice (some ⟨q, off, none⟩) nw cap, .slice (some ⟨gs, so, none⟩) ms cps, .int .i64 (deep : Int)] W fun e W' => (∃ v, e = .returned v) ∧ Blk .u16 73 W' q (laidTo X (off + nw)) ∧ W.grownBy W' (some q) := by
  have HQ := hide hQ
  have HFIT := hide hfit
  have HAT := hide hAt
  have HSR := hide hS
  have HSL := hide hS.1
  have H0 := hide h0
  have HQL : Hid (q < W.heap.size) := hQ.lt
  clear hQ hfit hAt hS h0
  go_enter Try.func75, Try.ntmps75
  go_wp2
  go_loopw [10] (fun cv wr => ∃ (c : Nat), c ≤ nw ∧ cv = .int .i64 c ∧ Hid (Blk .u16 73 wr q (laidTo X (off + c))) ∧ Hid (W.grownBy wr (some q))) (fun cv _ => nw - (intOf cv).toNat)
  case atStart => exact ⟨0, by omega, by go_num, HQ, World.grownBy.refl _ _⟩
  case round =>
    clear HQ
    obtain ⟨c, hc, rfl, HQR, HGR⟩ := hrel
    by_cases hlt : c < nw
    · have hcI : (c : Int) < (nw : Int) := by omega
      have e1 := i64_in ((c : Int) + 1) (by omega)
      obtain ⟨a, HA⟩ : ∃ a, Hid (fromN ms nw c = a) := ⟨_, rfl⟩
      obtain ⟨b, HB⟩ : ∃ b, Hid (toN ms nw c = b) := ⟨_, rfl⟩
      have hab : a < b := by rw [← unhide HA, ← unhide HB]; exact from_to hnw.1 hms.1
      have hbm : b ≤ ms := by rw [← unhide HB]; exact to_le hlt
      obtain ⟨ct, HCT⟩ : ∃ k, Hid (b - a = k) := ⟨_, rfl⟩
      obtain ⟨dc, HDC⟩ : ∃ k : Nat, Hid (deep * ct = k) := ⟨_, rfl⟩
      have hct : 1 ≤ ct ∧ ct ≤ 1024 := by have := unhide HCT; omega
      have hdc : 1 ≤ dc ∧ dc ≤ 1048576 := by
        rw [← unhide HDC]
        exact ⟨Nat.mul_le_mul hdp.1 hct.1, Nat.mul_le_mul hdp.2 hct.2⟩
      obtain ⟨P, HP⟩ : ∃ P, Hid ((S.drop a).take ct = P) := ⟨_, rfl⟩
      have HPL : Hid (P.length = ct) := by unfold Hid; rw [← unhide HP]; have := unhide HSL; have := unhide HCT; simp; omega
      have HPS : Hid (P.sum = sumK S 0 a ct) := by unfold Hid; rw [← unhide HP]; exact sum_take ct (by have := unhide HSL; have := unhide HCT; omega)
      obtain ⟨u, HU⟩ : ∃ u, Hid (meanI P.sum dc = u) := ⟨_, rfl⟩
      have HP0 : Hid (∀ i, 0 ≤ P.getD i 0 ∧ P.getD i 0 ≤ 5000000) := fun i => by
        by_cases hi : i < ct
        · have e : P.getD i 0 = S.getD (a + i) 0 := by rw [← unhide HP]; simp [List.getElem?_take_of_lt hi]
          have := unhide H0 (a + i)
          rw [e]
          have h4 : (4095 : Int) * deep ≤ 4095 * 1024 := Int.mul_le_mul_of_nonneg_left (by omega) (by omega)
          omega
        · have e : P.getD i 0 = 0 := by rw [List.getD_eq_getElem?_getD, List.getElem?_eq_none (by rw [unhide HPL]; omega)]; rfl
          rw [e]
          omega
      have hu : 0 ≤ u ∧ u ≤ 4095 := by
        have h1 := sumK_in (L := S) (at0 := 0) (a := a) (lo := 0) (hi := 4095 * deep) ct (fun j _ => by have := unhide H0 (0 + (a + j)); exact this)
        rw [← unhide HPS] at h1
        rw [← unhide HU]
        refine ⟨mean_ge (by omega) (by rw [Int.mul_zero]; have := h1.1; rw [Int.mul_zero] at this; exact this), mean_le (by omega) ?_⟩
        refine Int.le_trans h1.2 ?_
        rw [← unhide HDC]
        push_cast
        refine Int.le_of_eq ?_
        ac_rfl
      have HVAL : Hid (X.getD (off + c) 0 = u) := by
        unfold Hid
        rw [unhide HAT c hlt, meansL_at S nw deep c hlt, unhide HSL, unhide HA, unhide HB, unhide HCT, unhide HDC, ← unhide HPS, unhide HU]
      have eu := u16_in u (by omega)
      have k1 : IntKind.i64.wrap ((deep : Int) * (ct : Int)) = (dc : Int) := by
        have e : (deep : Int) * (ct : Int) = (dc : Int) := by have := unhide HDC; exact_mod_cast this
        rw [e, i64_in _ (by omega)]
      go_wp2_with fail
      refine (spanOf c nw ms a b hlt hnw.2 hms HA HB wr).mono ?_
      rintro e w1 ⟨rfl, g1⟩
      obtain ⟨W2, hW2⟩ : ∃ W2, w1.alloc (.cells #[.int .i64 (a : Int), .int .i64 (b : Int)] 86) = W2 := ⟨_, rfl⟩
      have G2 : Hid (wr.grownBy W2 none) := by rw [← hW2]; exact grown_alloc g1 _
      have b7 : Hid (W2.heap[w1.heap.size]? = some (.cells #[.int .i64 (a : Int), .int .i64 (b : Int)] 86 (0, 0))) := by rw [← hW2]; exact heap_alloc_new w1 _
      have HW2 := hide hW2
      clear hW2 g1
      go_wp2
      rw [unhide HW2]
      generalize w1.heap.size = s7 at *
      clear HW2
      have i0 : (0 : Int) ≤ (a : Int) := by omega
      have i1 : (a : Int) ≤ (b : Int) := by omega
      have i2 : (b : Int) ≤ (cps : Int) := by omega
      have i3 : ¬ cps = a := by omega
      have j0 : (0 : Int) ≤ (c : Int) := by omega
      refine wp_region_noPanic ?_
      refine wp_region_tailL 20 (fun W => W.heap[s7]? = some (.cells #[.int .i64 (a : Int), .int .i64 (b : Int)] 86 (0, 0))) [true, true, true, true, true, true, true, true, true, true, false, false, false, false, false, false] (by kernel_rfl) (fun _ _ _ _ _ h => h) rfl (by decide) (by kernel_rfl) (unhide b7) ?_
      have b7 : Hid (W2.drew.heap[s7]? = some (.cells #[.int .i64 (a : Int), .int .i64 (b : Int)] 86 (0, 0))) := unhide b7
      have GD : Hid (wr.grownBy W2.drew none) := grown_drew (unhide G2)
      generalize W2.drew = w4 at *
      clear G2
      refine heldF_take (v := ?_) (Or.inl ⟨by rfl, ?_⟩) ?_
      rotate_left 1
      · intro w' hSw
        go_simp
        try with_reducible rfl
      try simp only [Act.put, List.setIfInBounds_toArray, List.set_cons_zero, List.set_cons_succ]
      refine heldF_take (v := ?_) (Or.inl ⟨by rfl, ?_⟩) ?_
      rotate_left 1
      · intro w' hSw
        go_simp
        try with_reducible rfl
      try simp only [Act.put, List.setIfInBounds_toArray, List.set_cons_zero, List.set_cons_succ]
      refine heldF_take (v := ?_) (Or.inl ⟨by rfl, ?_⟩) ?_
      rotate_left 1
      · intro w' hSw
        go_simp
        try with_reducible rfl
      try simp only [Act.put, List.setIfInBounds_toArray, List.set_cons_zero, List.set_cons_succ]
      refine heldF_take (v := ?_) (Or.inl ⟨by rfl, ?_⟩) ?_
      rotate_left 1
      · intro w' hSw
        go_simp
        try with_reducible rfl
      try simp only [Act.put, List.setIfInBounds_toArray, List.set_cons_zero, List.set_cons_succ]
      refine heldF_take (v := ?_) (Or.inl ⟨by rfl, ?_⟩) ?_
      rotate_left 1
      · intro w' hSw
        have ca : w'.cell? ⟨s7, 0, none⟩ = some (.int .i64 (a : Int)) := by rw [cell_of_row w' _ 0 _ _ (0, 0) hSw]; rfl
        have cb : w'.cell? ⟨s7, 1, none⟩ = some (.int .i64 (b : Int)) := by rw [cell_of_row w' _ 1 _ _ (0, 0) hSw]; rfl
        go_simp
        try with_reducible rfl
      try simp only [Act.put, List.setIfInBounds_toArray, List.set_cons_zero, List.set_cons_succ]
      refine heldF_take (v := ?_) (Or.inl ⟨by rfl, ?_⟩) ?_
      rotate_left 1
      · intro w' hSw
        go_simp
        try with_reducible rfl
      try simp only [Act.put, List.setIfInBounds_toArray, List.set_cons_zero, List.set_cons_succ]
      refine heldF_take (v := ?_) (Or.inl ⟨by rfl, ?_⟩) ?_
      rotate_left 1
      · intro w' hSw
        have ca : w'.cell? ⟨s7, 0, none⟩ = some (.int .i64 (a : Int)) := by rw [cell_of_row w' _ 0 _ _ (0, 0) hSw]; rfl
        have cb : w'.cell? ⟨s7, 1, none⟩ = some (.int .i64 (b : Int)) := by rw [cell_of_row w' _ 1 _ _ (0, 0) hSw]; rfl
        go_simp
        try with_reducible rfl
      try simp only [Act.put, List.setIfInBounds_toArray, List.set_cons_zero, List.set_cons_succ]
      refine heldF_take (v := ?_) (Or.inl ⟨by rfl, ?_⟩) ?_
      rotate_left 1
      · intro w' hSw
        go_simp
        try with_reducible rfl
      try simp only [Act.put, List.setIfInBounds_toArray, List.set_cons_zero, List.set_cons_succ]
      refine heldF_take (v := ?_) (Or.inl ⟨by rfl, ?_⟩) ?_
      rotate_left 1
      · intro w' hSw
        go_simp
        try with_reducible rfl
      try simp only [Act.put, List.setIfInBounds_toArray, List.set_cons_zero, List.set_cons_succ]
      refine heldF_take (v := .agg #[.int .i64 (a : Int), .int .i64 (b : Int)]) (Or.inl ⟨by rfl, ?_⟩) ?_
      · intro w' hSw
        exact exec_row 86 _ rfl s7 rfl _ _ hSw _ Try.underlying86 rfl (by kernel_rfl)
      try simp only [Act.put, List.setIfInBounds_toArray, List.set_cons_zero, List.set_cons_succ]
      refine heldF_skip ?_
      refine heldF_skip ?_
      refine heldF_skip ?_
      refine heldF_skip ?_
      refine heldF_skip ?_
      refine heldF_skip ?_
      refine heldF_nil ?_
      refine tailL_skip ?_
      refine tailL_skip ?_
      refine tailL_skip ?_
      refine tailL_skip ?_
      refine tailL_skip ?_
      refine tailL_skip ?_
      refine tailL_skip ?_
      refine tailL_skip ?_
      refine tailL_skip ?_
      refine tailL_skip ?_
      refine tailL_step (fun K hK => ?_)
      go_simp
      refine (spanCount a b ct (by omega) (by omega) HCT w4).mono ?_
      rintro e w5 ⟨rfl, g5⟩
      have S5 : w5.heap[s7]? = _ := grown_atG g5 (unhide b7) (by simp)
      refine hK.out _ _ (.inr S5) ?_
      clear hK K
      try simp only [Act.put, List.setIfInBounds_toArray, List.set_cons_zero, List.set_cons_succ]
      refine tailL_step (fun K hK => ?_)
      go_simp
      refine hK.out _ _ (.inr S5) ?_
      clear hK K
      try simp only [Act.put, List.setIfInBounds_toArray, List.set_cons_zero, List.set_cons_succ]
      refine tailL_step (fun K hK => ?_)
      go_simp
      rw [show b - a = ct from unhide HCT]
      refine (meanOfI (some ⟨gs, so + a, none⟩) ct _ P dc u w5 ?_ hct.2 (unhide HP0) (by omega) HU).mono ?_
      · have hr5 := ((unhide HSR).beside (unhide HGR) (fun _ b' o' e => by simp at e; rw [← e.1]; exact hne)).grown (grown_trans (unhide GD) g5)
        refine ⟨unhide HPL, fun i hi => ⟨gs, so + a, rfl, ?_⟩⟩
        obtain ⟨b', o', e, hcc⟩ := hr5.2 (a + i) (by have := unhide HCT; omega)
        simp only [Option.some.injEq, Addr.mk.injEq, and_true] at e
        obtain ⟨rfl, rfl⟩ := e
        rw [Nat.add_assoc, hcc, ← unhide HP]
        simp [List.getElem?_take_of_lt hi]
      rintro e w6 ⟨rfl, g6⟩
      have S6 : w6.heap[s7]? = _ := grown_atG g6 S5 (by simp)
      refine hK.out _ _ (.inr S6) ?_
      clear hK K
      try simp only [Act.put, List.setIfInBounds_toArray, List.set_cons_zero, List.set_cons_succ]
      refine tailL_step (fun K hK => ?_)
      go_simp
      refine hK.out _ _ (.inr S6) ?_
      clear hK K
      try simp only [Act.put, List.setIfInBounds_toArray, List.set_cons_zero, List.set_cons_succ]
      refine tailL_step (fun K hK => ?_)
      go_simp
      refine hK.out _ _ (.inr S6) ?_
      clear hK K
      try simp only [Act.put, List.setIfInBounds_toArray, List.set_cons_zero, List.set_cons_succ]
      refine tailL_step (fun K hK => ?_)
      have HQ5 : Hid (Blk .u16 73 w6 q (laidTo X (off + c))) := (unhide HQR).grown (grown_trans (unhide GD) (grown_trans g5 g6))
      have cq := (unhide HQ5).cell (off + c) (by rw [laidTo_len X (off + c) (by have := unhide HFIT; omega)]; have := unhide HFIT; omega)
      have fq := (unhide HQ5).frozen (off + c)
      go_simp
      refine hK.out _ _ (.inl rfl) ?_
      clear hK K
      refine tailL_nil (NoPanic.normal ?_)
      try simp only [Act.put]
      have HQ9 : Hid (Blk .u16 73 (w6.setCell ⟨q, off + c, none⟩ (.int .u16 u)) q (laidTo X (off + (c + 1)))) := by
        unfold Hid
        rw [← Nat.add_assoc, ← laidTo_set X (off + c) (by have := unhide HFIT; omega) u (unhide HVAL)]
        exact (unhide HQ5).set (off + c) u
      have HG9 : Hid (W.grownBy (w6.setCell ⟨q, off + c, none⟩ (.int .u16 u)) (some q)) := grown_trans (unhide HGR) (grown_trans (grown_any (grown_trans (unhide GD) (grown_trans g5 g6))) (grown_set w6 q (off + c) (.int .u16 u)))
      go_wp2
      go_roundw
      case rel => exact ⟨c + 1, by omega, by go_num, HQ9, HG9⟩
      case measure => simp [intOf]; omega
    · obtain rfl : nw = c := by omega
      go_wp2
      go_end0
      exact ⟨⟨_, rfl⟩, unhide HQR, unhide HGR⟩

end Go.Proofs.Ytkefpjbdkhifhaa
