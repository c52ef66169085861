/-
  Colours in the specification (written by gen_colour.py).
-/
import Derived.Test.YtgknninkfdgebaaColourPure
import Derived.Test.YtgknninkfdgebaaBetween
import Derived.Test.YtgknninkfdgebaaHeldLast
import Derived.Test.YtgknninkfdgebaaRowOps
import Derived.Deep.RegionHeld3
namespace Go.Proofs.Ytgknninkfdgebaa
open Go.RowKit

theorem specFloor512 (n u : Int) (hn : -4000000000000000 ≤ n ∧ n ≤ 4000000000000000) (hu : Hid (n / 512 = u)) (w : World) :
    Calls Try.prog 51 #[.int .i64 n, .int .i64 512] w fun e w' => e = .returned (.int .i64 u) ∧ w = w' := by
  by_cases h : 0 ≤ n
  · have h2 : n.tdiv 512 = n / 512 := Int.tdiv_eq_ediv_of_nonneg h
    go_enter Try.func51, Try.ntmps51
    go_wp2
    go_ret
    refine ⟨ret_int ?_, rfl⟩
    first | exact unhide hu | (rw [h2]; exact unhide hu)
  · obtain ⟨m, rfl⟩ : ∃ m, n = -m := ⟨-n, by omega⟩
    have h2 : (m + 512 - 1).tdiv 512 = (m + 512 - 1) / 512 := Int.tdiv_eq_ediv_of_nonneg (by omega)
    have h5 : -((m + 512 - 1) / 512) = u := by have := unhide hu; omega
    have e1 := i64_in (m + 512) (by omega)
    have e2 := i64_in (m + 512 - 1) (by omega)
    clear hu
    go_enter Try.func51, Try.ntmps51
    go_wp2
    go_ret
    refine ⟨ret_int ?_, rfl⟩
    first | omega | (rw [h2]; omega)

theorem specRnd256 (n u : Int) (hn : -1000000000000000 ≤ n ∧ n ≤ 1000000000000000) (hu : Hid (rndI n 256 = u)) (w : World) :
    Calls Try.prog 29 #[.int .i64 n, .int .i64 256] w fun e w' => e = .returned (.int .i64 u) ∧ w = w' := by
  have HU : Hid ((2 * n + 256) / 512 = u) := unhide hu
  clear hu
  go_enter Try.func29, Try.ntmps29
  go_wp2_with fail
  refine (specFloor512 (2 * n + 256) u (by omega) HU w).mono ?_
  rintro e w1 ⟨rfl, rfl⟩
  go_wp2
  go_ret
  exact ⟨rfl, rfl⟩

theorem specFloor300 (n u : Int) (hn : -4000000000000000 ≤ n ∧ n ≤ 4000000000000000) (hu : Hid (n / 300 = u)) (w : World) :
    Calls Try.prog 51 #[.int .i64 n, .int .i64 300] w fun e w' => e = .returned (.int .i64 u) ∧ w = w' := by
  by_cases h : 0 ≤ n
  · have h2 : n.tdiv 300 = n / 300 := Int.tdiv_eq_ediv_of_nonneg h
    go_enter Try.func51, Try.ntmps51
    go_wp2
    go_ret
    refine ⟨ret_int ?_, rfl⟩
    first | exact unhide hu | (rw [h2]; exact unhide hu)
  · obtain ⟨m, rfl⟩ : ∃ m, n = -m := ⟨-n, by omega⟩
    have h2 : (m + 300 - 1).tdiv 300 = (m + 300 - 1) / 300 := Int.tdiv_eq_ediv_of_nonneg (by omega)
    have h5 : -((m + 300 - 1) / 300) = u := by have := unhide hu; omega
    have e1 := i64_in (m + 300) (by omega)
    have e2 := i64_in (m + 300 - 1) (by omega)
    clear hu
    go_enter Try.func51, Try.ntmps51
    go_wp2
    go_ret
    refine ⟨ret_int ?_, rfl⟩
    first | omega | (rw [h2]; omega)

theorem specRnd150 (n u : Int) (hn : -1000000000000000 ≤ n ∧ n ≤ 1000000000000000) (hu : Hid (rndI n 150 = u)) (w : World) :
    Calls Try.prog 29 #[.int .i64 n, .int .i64 150] w fun e w' => e = .returned (.int .i64 u) ∧ w = w' := by
  have HU : Hid ((2 * n + 150) / 300 = u) := unhide hu
  clear hu
  go_enter Try.func29, Try.ntmps29
  go_wp2_with fail
  refine (specFloor300 (2 * n + 150) u (by omega) HU w).mono ?_
  rintro e w1 ⟨rfl, rfl⟩
  go_wp2
  go_ret
  exact ⟨rfl, rfl⟩

theorem specClip17 (n hi u : Int) (h : 0 ≤ hi) (hu : Hid (clipI n hi = u)) (w : World) :
    Calls Try.prog 28 #[.int .i64 n, .int .i64 0, .int .i64 hi] w fun e w' => e = .returned (.int .i64 u) ∧ w = w' := by
  have hu' := unhide hu
  unfold clipI at hu'
  clear hu
  by_cases h1 : n < 0
  · obtain rfl : u = 0 := by omega
    go_enter Try.func28, Try.ntmps28
    clear hu'
    go_wp2
    go_ret
    exact ⟨rfl, rfl⟩
  · by_cases h2 : hi < n
    · obtain rfl : u = hi := by omega
      clear hu'
      go_enter Try.func28, Try.ntmps28
      go_wp2
      go_ret
      exact ⟨rfl, rfl⟩
    · obtain rfl : u = n := by omega
      clear hu'
      go_enter Try.func28, Try.ntmps28
      go_wp2
      go_ret
      exact ⟨rfl, rfl⟩

theorem px_at {P : Int} {zs : List Int} (h : pxB P zs = true) : zs.length = 3 ∧ ∀ j, j < 3 → 0 ≤ zs.getD j 0 ∧ zs.getD j 0 ≤ mostI P := by
  simp only [pxB, Bool.and_eq_true, decide_eq_true_eq, List.all_eq_true] at h
  refine ⟨h.2.1, fun j hj => ?_⟩
  have hj' : j < zs.length := by omega
  have h2 : zs.getD j 0 = zs[j] := by simp [hj']
  rw [h2]
  exact h.2.2 _ (List.getElem_mem hj')
theorem px_no {P : Int} {zs : List Int} (k : Nat) (hk : k < zs.length) (h : ¬ (0 ≤ zs.getD k 0 ∧ zs.getD k 0 ≤ mostI P)) : pxB P zs = false := by
  cases hb : pxB P zs with
  | false => rfl
  | true => exact absurd ((px_at hb).2 k (by have := (px_at hb).1; omega)) h
theorem px_all {P : Int} {zs : List Int} (hP : P = 8 ∨ P = 12) (hl : zs.length = 3) (h : ∀ j, j < 3 → 0 ≤ zs.getD j 0 ∧ zs.getD j 0 ≤ mostI P) : pxB P zs = true := by
  simp only [pxB, Bool.and_eq_true, Bool.or_eq_true, decide_eq_true_eq, List.all_eq_true]
  refine ⟨hP, hl, fun x hx => ?_⟩
  obtain ⟨i, hi, rfl⟩ := List.getElem_of_mem hx
  have h2 : zs.getD i 0 = zs[i] := by simp [hi]
  rw [← h2]
  exact h i (by omega)

set_option maxHeartbeats 1600000 in
theorem specPx8 (ao : Option Addr) (n cap : Nat) (zs : List Int) (w : World) (hr : Rd .i64 w ao n zs) (b : Bool) (hb : Hid (pxB 8 zs = b)) :
    Calls Try.prog 27 #[.int .i64 8, .slice ao n cap] w fun e w' => e = .returned (.bool b) ∧ w.grownBy w' none := by
  have HZ := hide hr.1
  by_cases h3 : ¬ n = 3
  · obtain rfl : b = false := by
      rw [← unhide hb, pxB, unhide HZ, decide_eq_false h3]; simp
    have e3 : ((n : Int) != 3) = true := by simp; omega
    go_enter Try.func27, Try.ntmps27
    go_wp2
    go_ret
    exact ⟨rfl, World.grownBy.refl _ _⟩
  obtain rfl : n = 3 := by omega
  clear h3
  have HR := hide hr
  clear hr
  go_enter Try.func27, Try.ntmps27
  go_wp2
  go_loopw [5] (fun i wr => ∃ k : Nat, k ≤ 3 ∧ i = .int .i64 k ∧ Hid (∀ j, j < k → 0 ≤ zs.getD j 0 ∧ zs.getD j 0 ≤ 255) ∧ Hid (w.grownBy wr none)) (fun i _ => 3 - (intOf i).toNat)
  case atStart => exact ⟨0, by omega, by go_num, fun j hj => absurd hj (by omega), World.grownBy.refl _ _⟩
  case round =>
    obtain ⟨k, hk, rfl, HK, HG⟩ := hrel
    by_cases hlt : k < 3
    · have hkI : (k : Int) < 3 := by omega
      obtain ⟨bb, off, rfl, hc⟩ := (unhide HR).2 k hlt
      have hcell := (unhide HG).cell hc (by simp)
      obtain ⟨z, HX⟩ : ∃ z, Hid (zs.getD k 0 = z) := ⟨_, rfl⟩
      obtain ⟨t, HT⟩ : ∃ t, Hid (decide (0 ≤ z ∧ z ≤ 255) = t) := ⟨_, rfl⟩
      rw [unhide HX] at hcell
      have e9 := i64_in ((k : Int) + 1) (by omega)
      clear hc
      have kI : (0 : Int) ≤ (k : Int) := by omega
      go_wp2
      refine wp_region_noPanic ?_
      refine wp_region_tail (fun W => wr.drew.grownBy W none) [true, true, true, true, true, true, true, false, false] (by kernel_rfl) (fun _ _ _ _ _ h => h) rfl (by kernel_rfl) (World.grownBy.refl _ _) ?_
      have CD := hide ((grown_drew (World.grownBy.refl wr none)).cell hcell (by simp))
      have gD : w.grownBy wr.drew none := grown_drew (unhide HG)
      generalize wr.drew = W1 at *
      clear hcell
      refine heldF_take (v := ?_) (Or.inl ⟨by rfl, ?_⟩) ?_
      rotate_left 1
      · intro w' hSw
        go_simp
        try with_reducible rfl
      try simp only [Act.put, List.setIfInBounds_toArray, List.set_cons_zero, List.set_cons_succ]
      refine heldF_take (v := ?_) (Or.inl ⟨by rfl, ?_⟩) ?_
      rotate_left 1
      · intro w' hSw
        go_simp
        try with_reducible rfl
      try simp only [Act.put, List.setIfInBounds_toArray, List.set_cons_zero, List.set_cons_succ]
      refine heldF_take (v := ?_) (Or.inl ⟨by rfl, ?_⟩) ?_
      rotate_left 1
      · intro w' hSw
        go_simp
        try with_reducible rfl
      try simp only [Act.put, List.setIfInBounds_toArray, List.set_cons_zero, List.set_cons_succ]
      refine heldF_take (v := ?_) (Or.inl ⟨by rfl, ?_⟩) ?_
      rotate_left 1
      · intro w' hSw
        have cc := hSw.cell (unhide CD) (by simp)
        go_simp
        try with_reducible rfl
      try simp only [Act.put, List.setIfInBounds_toArray, List.set_cons_zero, List.set_cons_succ]
      refine heldF_take (v := ?_) (Or.inl ⟨by rfl, ?_⟩) ?_
      rotate_left 1
      · intro w' hSw
        go_simp
        try with_reducible rfl
      try simp only [Act.put, List.setIfInBounds_toArray, List.set_cons_zero, List.set_cons_succ]
      refine heldF_take (v := ?_) (Or.inl ⟨by rfl, ?_⟩) ?_
      rotate_left 1
      · intro w' hSw
        go_simp
        try with_reducible rfl
      try simp only [Act.put, List.setIfInBounds_toArray, List.set_cons_zero, List.set_cons_succ]
      refine heldF_take (v := ?_) (Or.inl ⟨by rfl, ?_⟩) ?_
      rotate_left 1
      · intro w' hSw
        go_simp
        try with_reducible rfl
      try simp only [Act.put, List.setIfInBounds_toArray, List.set_cons_zero, List.set_cons_succ]
      refine heldF_skip ?_
      refine heldF_skip ?_
      refine heldF_nil ?_
      refine tailF_skip ?_
      refine tailF_skip ?_
      refine tailF_skip ?_
      refine tailF_skip ?_
      refine tailF_skip ?_
      refine tailF_skip ?_
      refine tailF_skip ?_
      refine tailF_step (fun K hK => ?_)
      go_simp
      refine (between z 0 255 t HT W1).mono ?_
      rintro e w4 ⟨rfl, rfl⟩
      refine hK.out _ _ (World.grownBy.refl _ _) ?_
      clear hK K
      try simp only [Act.put, List.setIfInBounds_toArray, List.set_cons_zero, List.set_cons_succ]
      refine tailF_step (fun K hK => ?_)
      go_simp
      refine hK.out _ _ (World.grownBy.refl _ _) ?_
      clear hK K
      try simp only [Act.put, List.setIfInBounds_toArray, List.set_cons_zero, List.set_cons_succ]
      refine tailF_nil (NoPanic.normal ?_)
      try simp only [Act.put]
      cases t with
      | true =>
        have HK' : Hid (∀ j, j < k + 1 → 0 ≤ zs.getD j 0 ∧ zs.getD j 0 ≤ 255) := fun j hj => by
          by_cases e : j = k
          · subst e; rw [unhide HX]; exact of_decide_eq_true (unhide HT)
          · exact unhide HK j (by omega)
        go_wp2
        go_roundw
        case rel => exact ⟨k + 1, by omega, by go_num, HK', gD⟩
        case measure => simp [intOf]; omega
      | false =>
        obtain rfl : b = false := by
          rw [← unhide hb]
          exact px_no k (by rw [unhide HZ]; exact hlt) (by rw [unhide HX]; exact of_decide_eq_false (unhide HT))
        go_wp2
        go_ret
        exact ⟨rfl, gD⟩
    · obtain rfl : k = 3 := by omega
      obtain rfl : b = true := by
        rw [← unhide hb]
        exact px_all (by omega) (unhide HZ) (unhide HK)
      go_wp2
      go_ret
      exact ⟨rfl, unhide HG⟩

set_option maxHeartbeats 1600000 in
theorem specPx12 (ao : Option Addr) (n cap : Nat) (zs : List Int) (w : World) (hr : Rd .i64 w ao n zs) (b : Bool) (hb : Hid (pxB 12 zs = b)) :
    Calls Try.prog 27 #[.int .i64 12, .slice ao n cap] w fun e w' => e = .returned (.bool b) ∧ w.grownBy w' none := by
  have HZ := hide hr.1
  by_cases h3 : ¬ n = 3
  · obtain rfl : b = false := by
      rw [← unhide hb, pxB, unhide HZ, decide_eq_false h3]; simp
    have e3 : ((n : Int) != 3) = true := by simp; omega
    go_enter Try.func27, Try.ntmps27
    go_wp2
    go_ret
    exact ⟨rfl, World.grownBy.refl _ _⟩
  obtain rfl : n = 3 := by omega
  clear h3
  have HR := hide hr
  clear hr
  go_enter Try.func27, Try.ntmps27
  go_wp2
  go_loopw [5] (fun i wr => ∃ k : Nat, k ≤ 3 ∧ i = .int .i64 k ∧ Hid (∀ j, j < k → 0 ≤ zs.getD j 0 ∧ zs.getD j 0 ≤ 4095) ∧ Hid (w.grownBy wr none)) (fun i _ => 3 - (intOf i).toNat)
  case atStart => exact ⟨0, by omega, by go_num, fun j hj => absurd hj (by omega), World.grownBy.refl _ _⟩
  case round =>
    obtain ⟨k, hk, rfl, HK, HG⟩ := hrel
    by_cases hlt : k < 3
    · have hkI : (k : Int) < 3 := by omega
      obtain ⟨bb, off, rfl, hc⟩ := (unhide HR).2 k hlt
      have hcell := (unhide HG).cell hc (by simp)
      obtain ⟨z, HX⟩ : ∃ z, Hid (zs.getD k 0 = z) := ⟨_, rfl⟩
      obtain ⟨t, HT⟩ : ∃ t, Hid (decide (0 ≤ z ∧ z ≤ 4095) = t) := ⟨_, rfl⟩
      rw [unhide HX] at hcell
      have e9 := i64_in ((k : Int) + 1) (by omega)
      clear hc
      have kI : (0 : Int) ≤ (k : Int) := by omega
      go_wp2
      refine wp_region_noPanic ?_
      refine wp_region_tail (fun W => wr.drew.grownBy W none) [true, true, true, true, true, true, true, false, false] (by kernel_rfl) (fun _ _ _ _ _ h => h) rfl (by kernel_rfl) (World.grownBy.refl _ _) ?_
      have CD := hide ((grown_drew (World.grownBy.refl wr none)).cell hcell (by simp))
      have gD : w.grownBy wr.drew none := grown_drew (unhide HG)
      generalize wr.drew = W1 at *
      clear hcell
      refine heldF_take (v := ?_) (Or.inl ⟨by rfl, ?_⟩) ?_
      rotate_left 1
      · intro w' hSw
        go_simp
        try with_reducible rfl
      try simp only [Act.put, List.setIfInBounds_toArray, List.set_cons_zero, List.set_cons_succ]
      refine heldF_take (v := ?_) (Or.inl ⟨by rfl, ?_⟩) ?_
      rotate_left 1
      · intro w' hSw
        go_simp
        try with_reducible rfl
      try simp only [Act.put, List.setIfInBounds_toArray, List.set_cons_zero, List.set_cons_succ]
      refine heldF_take (v := ?_) (Or.inl ⟨by rfl, ?_⟩) ?_
      rotate_left 1
      · intro w' hSw
        go_simp
        try with_reducible rfl
      try simp only [Act.put, List.setIfInBounds_toArray, List.set_cons_zero, List.set_cons_succ]
      refine heldF_take (v := ?_) (Or.inl ⟨by rfl, ?_⟩) ?_
      rotate_left 1
      · intro w' hSw
        have cc := hSw.cell (unhide CD) (by simp)
        go_simp
        try with_reducible rfl
      try simp only [Act.put, List.setIfInBounds_toArray, List.set_cons_zero, List.set_cons_succ]
      refine heldF_take (v := ?_) (Or.inl ⟨by rfl, ?_⟩) ?_
      rotate_left 1
      · intro w' hSw
        go_simp
        try with_reducible rfl
      try simp only [Act.put, List.setIfInBounds_toArray, List.set_cons_zero, List.set_cons_succ]
      refine heldF_take (v := ?_) (Or.inl ⟨by rfl, ?_⟩) ?_
      rotate_left 1
      · intro w' hSw
        go_simp
        try with_reducible rfl
      try simp only [Act.put, List.setIfInBounds_toArray, List.set_cons_zero, List.set_cons_succ]
      refine heldF_take (v := ?_) (Or.inl ⟨by rfl, ?_⟩) ?_
      rotate_left 1
      · intro w' hSw
        go_simp
        try with_reducible rfl
      try simp only [Act.put, List.setIfInBounds_toArray, List.set_cons_zero, List.set_cons_succ]
      refine heldF_skip ?_
      refine heldF_skip ?_
      refine heldF_nil ?_
      refine tailF_skip ?_
      refine tailF_skip ?_
      refine tailF_skip ?_
      refine tailF_skip ?_
      refine tailF_skip ?_
      refine tailF_skip ?_
      refine tailF_skip ?_
      refine tailF_step (fun K hK => ?_)
      go_simp
      refine (between z 0 4095 t HT W1).mono ?_
      rintro e w4 ⟨rfl, rfl⟩
      refine hK.out _ _ (World.grownBy.refl _ _) ?_
      clear hK K
      try simp only [Act.put, List.setIfInBounds_toArray, List.set_cons_zero, List.set_cons_succ]
      refine tailF_step (fun K hK => ?_)
      go_simp
      refine hK.out _ _ (World.grownBy.refl _ _) ?_
      clear hK K
      try simp only [Act.put, List.setIfInBounds_toArray, List.set_cons_zero, List.set_cons_succ]
      refine tailF_nil (NoPanic.normal ?_)
      try simp only [Act.put]
      cases t with
      | true =>
        have HK' : Hid (∀ j, j < k + 1 → 0 ≤ zs.getD j 0 ∧ zs.getD j 0 ≤ 4095) := fun j hj => by
          by_cases e : j = k
          · subst e; rw [unhide HX]; exact of_decide_eq_true (unhide HT)
          · exact unhide HK j (by omega)
        go_wp2
        go_roundw
        case rel => exact ⟨k + 1, by omega, by go_num, HK', gD⟩
        case measure => simp [intOf]; omega
      | false =>
        obtain rfl : b = false := by
          rw [← unhide hb]
          exact px_no k (by rw [unhide HZ]; exact hlt) (by rw [unhide HX]; exact of_decide_eq_false (unhide HT))
        go_wp2
        go_ret
        exact ⟨rfl, gD⟩
    · obtain rfl : k = 3 := by omega
      obtain rfl : b = true := by
        rw [← unhide hb]
        exact px_all (by omega) (unhide HZ) (unhide HK)
      go_wp2
      go_ret
      exact ⟨rfl, unhide HG⟩

end Go.Proofs.Ytgknninkfdgebaa
