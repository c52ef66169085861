/-
  Geometry in the program: shares, the greatest ones, planes, units, blocks.
-/
import Derived.Test.YtoeehfjbnbbijaaFrameImpl3
import Derived.Test.YtoeehfjbnbbijaaGeoPure
import Derived.Deep.RegionHeld3
namespace Go.Proofs.Ytoeehfjbnbbijaa
open Go.RowKit

theorem divUp (n d u : Int) (hn : 1 ≤ n ∧ n ≤ 1000000) (hd : 1 ≤ d ∧ d ≤ 1000000) (hu : Hid (upI n d = u)) (w : World) :
    Calls Try.prog 84 #[.int .i64 n, .int .i64 d] w fun e w' => e = .returned (.int .i64 u) ∧ w = w' := by
  have hd0 : (d == 0) = false := by simp; omega
  have hm1 : (d == -1) = false := by simp; omega
  have he : Hid ((n + d - 1) / d = u) := by rw [← unhide hu, upI, Int.tdiv_eq_ediv_of_nonneg (by omega)]; rfl
  go_enter Try.func84, Try.ntmps84
  go_wp2
  go_ret
  exact ⟨by simp [unhide he], rfl⟩

theorem areaCount (a b : Int) (ha : 0 ≤ a ∧ a ≤ 1024) (hb : 0 ≤ b ∧ b ≤ 1024) (w : World) :
    Calls Try.prog 74 #[.agg #[.int .i64 a, .int .i64 b]] w fun e w' => e = .returned (.int .i64 (a * b)) ∧ w.grownBy w' none := by
  have h0 : 0 ≤ a * b := Int.mul_nonneg ha.1 hb.1
  have h1 : a * b ≤ 1024 * 1024 := Int.mul_le_mul ha.2 hb.2 hb.1 (by omega)
  have hw := i64_in (a * b) (by omega)
  go_enter Try.func74, Try.ntmps74
  go_wp2
  go_ret
  exact ⟨rfl, grown_alloc (World.grownBy.refl _ _) _⟩

theorem shares (X : Array Value) (p wd ht rs n : Int) (C : Nat → Nat → Int) (hX : Fx X p wd ht rs n C) (c : Nat) (hc : c < 4) (w : World) :
    Calls Try.prog 76 #[.agg X, .int .i64 c] w fun e w' => e = .returned (.agg #[.int .i64 (C c 1), .int .i64 (C c 2)]) ∧ w.grownBy w' none := by
  have hs := hX.size
  have hc0 : (0 : Int) ≤ (c : Int) := by omega
  have hc4 : (c : Int) < 4 := by omega
  have HB : ∀ o, ((w.alloc (.cells X 80)).alloc o).heap[w.heap.size]? = some (.cells X 80 (0, 0)) := by
    intro o; rw [Below.heap_alloc _ _ _ (by simp)]; exact heap_alloc_new w _
  have K : Hid (∀ o, ((w.alloc (.cells X 80)).alloc o).cell? ⟨w.heap.size, 5 + c * 4 + 1, none⟩ = some (.int .i64 (C c 1)) ∧ ((w.alloc (.cells X 80)).alloc o).cell? ⟨w.heap.size, 5 + c * 4 + 2, none⟩ = some (.int .i64 (C c 2))) := fun o => ⟨fx_cell hX (HB o) c 1 (by omega) (by omega), fx_cell hX (HB o) c 2 (by omega) (by omega)⟩
  have h1 := (unhide K (.cells #[.int .i64 0, .int .i64 0] 98)).1
  have h2 := (unhide K (.cells #[.int .i64 0, .int .i64 0] 98)).2
  clear hX HB
  go_enter Try.func76, Try.ntmps76
  go_wp2
  go_region_held3 (fun w' => w'.cell? ⟨w.heap.size, 5 + c * 4 + 1, none⟩ = some (.int .i64 (C c 1)) ∧ w'.cell? ⟨w.heap.size, 5 + c * 4 + 2, none⟩ = some (.int .i64 (C c 2))) (first | exact ⟨h1, h2⟩ | exact unhide K _) (fail)
  go_wp2
  refine bodyPost_ret (v := .agg #[.int .i64 (C c 1), .int .i64 (C c 2)]) (by simp [results, Try.results76, go_sem]) rfl ⟨rfl, ?_⟩
  exact grown_drew (grown_alloc (grown_alloc (World.grownBy.refl _ _) _) _)

theorem areaCells {w : World} {g : Nat} {a b : Value} {t : TypeId} (hb : w.heap[g]? = some (.cells #[a, b] t (0, 0))) :
    w.cell? ⟨g, 0, none⟩ = some a ∧ w.cell? ⟨g, 1, none⟩ = some b ∧ w.frozen? ⟨g, 0, none⟩ = false ∧ w.frozen? ⟨g, 1, none⟩ = false :=
  ⟨by rw [cell_of_row w _ 0 _ _ (0, 0) hb]; rfl, by rw [cell_of_row w _ 1 _ _ (0, 0) hb]; rfl, frozen_of_row w g 0 _ _ hb, frozen_of_row w g 1 _ _ hb⟩
theorem grown_setNew {w w' : World} (h : w.grownBy w' none) (b j : Nat) (u : Value) (hb : w.heap.size ≤ b) : w.grownBy (w'.setCell ⟨b, j, none⟩ u) none := grown_new h (grown_set w' b j u) (fun g e => by simp at e; omega)
theorem loadArea {w : World} {g : Nat} {a b : Int} (hb : w.heap[g]? = some (.cells #[.int .i64 a, .int .i64 b] 98 (0, 0))) : (loadVar 98 ⟨g, 0, none⟩).run Try.prog w = .ok (.agg #[.int .i64 a, .int .i64 b]) w :=
  run_loadVar_row w g 98 98 _ (0, 0) _ hb Try.underlying98 rfl (by kernel_rfl)

set_option maxHeartbeats 1600000 in
theorem most (X : Array Value) (p wd ht rs : Int) (n : Nat) (C : Nat → Nat → Int) (hX : Fx X p wd ht rs n C) (hn : n ≤ 4) (mh mv : Int) (HH : Hid (mostA 0 C 1 n = mh)) (HV : Hid (mostA 0 C 2 n = mv)) (w : World) :
    Calls Try.prog 83 #[.agg X] w fun e w' => e = .returned (.agg #[.int .i64 mh, .int .i64 mv]) ∧ w.grownBy w' none := by
  have HX := hide hX
  have hs := hX.size
  have h4 := hX.c4
  have h4' : X[4] = .int .i64 n := by rw [Array.getElem?_eq_getElem (by omega)] at h4; simpa using h4
  obtain ⟨W0, hW0⟩ : ∃ W0, (((w.alloc (.cells X 80)).alloc (.cells #[.int .i64 0, .int .i64 0] 98)).alloc (.cells #[.int .i64 0, .int .i64 0] 98)) = W0 := ⟨_, rfl⟩
  have G0 : w.grownBy W0 none := by rw [← hW0]; exact grown_alloc (grown_alloc (grown_alloc (World.grownBy.refl _ _) _) _) _
  have b0 : W0.heap[w.heap.size]? = some (.cells X 80 (0, 0)) := by
    rw [← hW0, Below.heap_alloc _ _ _ (by simp; omega), Below.heap_alloc _ _ _ (by simp)]
    exact heap_alloc_new w _
  have b1 : W0.heap[w.heap.size + 1]? = some (.cells #[.int .i64 0, .int .i64 0] 98 (0, 0)) := by
    rw [← hW0, Below.heap_alloc _ _ _ (by simp)]
    have := heap_alloc_new (w.alloc (.cells X 80)) (.cells #[.int .i64 0, .int .i64 0] 98)
    simpa using this
  have b2 : W0.heap[w.heap.size + 1 + 1]? = some (.cells #[.int .i64 0, .int .i64 0] 98 (0, 0)) := by
    rw [← hW0]
    have := heap_alloc_new ((w.alloc (.cells X 80)).alloc (.cells #[.int .i64 0, .int .i64 0] 98)) (.cells #[.int .i64 0, .int .i64 0] 98)
    simpa using this
  have hsz : W0.heap.size = w.heap.size + 3 := by rw [← hW0]; simp
  have HW := hide hW0
  have B0 := hide b0
  have B1 := hide b1
  have B2 := hide b2
  have HG0 := hide G0
  clear hX hW0 b0 b1 b2 G0 h4
  go_enter Try.func83, Try.ntmps83
  go_wp2
  rw [unhide HW]
  clear HW
  go_loopw [9] (fun i wr => ∃ k : Nat, k ≤ n ∧ i = .int .i64 k ∧ wr.heap[w.heap.size + 1 + 1]? = some (.cells #[.int .i64 (mostA 0 C 1 k), .int .i64 (mostA 0 C 2 k)] 98 (0, 0)) ∧ W0.grownBy wr (some (w.heap.size + 1 + 1))) (fun i _ => n - (intOf i).toNat)
  case atStart => exact ⟨0, Nat.zero_le _, rfl, unhide B2, World.grownBy.refl _ _⟩
  case round =>
    obtain ⟨k, hk, rfl, hM, hgk⟩ := hrel
    have hB := (hgk.block w.heap.size (by omega) (by simp; omega)).trans (unhide B0)
    have hR := (hgk.block (w.heap.size + 1) (by omega) (by simp)).trans (unhide B1)
    have hsk := hgk.size
    by_cases hlt : k < n
    · have S1 : Hid (mostA 0 C 1 (k + 1) = max (mostA 0 C 1 k) (C k 1)) := rfl
      have S2 : Hid (mostA 0 C 2 (k + 1) = max (mostA 0 C 2 k) (C k 2)) := rfl
      generalize mostA 0 C 1 k = m1 at *
      generalize mostA 0 C 2 k = m2 at *
      go_wp2_with (refine wpList_load_row rfl 80 _ rfl w.heap.size rfl X 80 hB _ Try.underlying80 rfl (by rw [hs]; kernel_rfl) ?_)
      refine (shares X p wd ht rs n C (unhide HX) k (by omega) _).mono ?_
      rintro e w2 ⟨rfl, g2⟩
      have hM2 := (g2.block (w.heap.size + 1 + 1) (by omega) (by simp)).trans hM
      have s2 := g2.size
      have gA : w2.grownBy (w2.alloc (.cells #[.int .i64 (C k 1), .int .i64 (C k 2)] 98)) none := grown_alloc (World.grownBy.refl _ _) _
      have hM3 := (gA.block (w.heap.size + 1 + 1) (by omega) (by simp)).trans hM2
      have cm0 : (w2.alloc (.cells #[.int .i64 (C k 1), .int .i64 (C k 2)] 98)).cell? ⟨w.heap.size + 1 + 1, 0, none⟩ = some (.int .i64 m1) := by rw [cell_of_row _ _ 0 _ _ (0, 0) hM3]; rfl
      have cm1 : (w2.alloc (.cells #[.int .i64 (C k 1), .int .i64 (C k 2)] 98)).cell? ⟨w.heap.size + 1 + 1, 1, none⟩ = some (.int .i64 m2) := by rw [cell_of_row _ _ 1 _ _ (0, 0) hM3]; rfl
      have GA := hide (grown_trans g2 gA)
      have HM3 := hide hM3
      clear hM2 hM3 gA hM
      generalize C k 1 = c1 at *
      generalize C k 2 = c2 at *
      have fz0 := frozen_of_row _ _ 0 _ _ (unhide HM3)
      have fz1 := frozen_of_row _ _ 1 _ _ (unhide HM3)
      have ST : Hid (∀ u v : Int, (((w2.alloc (.cells #[.int .i64 c1, .int .i64 c2] 98)).setCell ⟨w.heap.size + 1 + 1, 0, none⟩ (.int .i64 u)).setCell ⟨w.heap.size + 1 + 1, 1, none⟩ (.int .i64 v)).heap[w.heap.size + 1 + 1]? = some (.cells #[.int .i64 u, .int .i64 v] 98 (0, 0)) ∧
          W0.grownBy (((w2.alloc (.cells #[.int .i64 c1, .int .i64 c2] 98)).setCell ⟨w.heap.size + 1 + 1, 0, none⟩ (.int .i64 u)).setCell ⟨w.heap.size + 1 + 1, 1, none⟩ (.int .i64 v)) (some (w.heap.size + 1 + 1))) := fun u v =>
        ⟨heap_setCell_same _ _ 1 _ _ _ (heap_setCell_same _ _ 0 _ _ _ (unhide HM3)), grown_trans (grown_trans (grown_trans hgk (grown_any (unhide GA))) (grown_set _ _ _ _)) (grown_set _ _ _ _)⟩
      by_cases q1 : m1 < c1 <;> by_cases q2 : m2 < c2
      all_goals
        go_wp2
        go_roundw
        case rel => exact ⟨k + 1, by omega, by go_num, by rw [unhide S1, unhide S2, ← show _ = max m1 c1 from by first | exact (Int.max_eq_right (by omega)).symm | exact (Int.max_eq_left (by omega)).symm, ← show _ = max m2 c2 from by first | exact (Int.max_eq_right (by omega)).symm | exact (Int.max_eq_left (by omega)).symm]; exact (unhide ST _ _).1, (unhide ST _ _).2⟩
        case measure => simp [intOf]; omega
    · have hkn : k = n := by omega
      subst hkn
      rw [unhide HH, unhide HV] at hM
      have cm := areaCells hM
      have cr := areaCells hR
      go_wp2
      refine bodyPost_ret (v := .agg #[.int .i64 mh, .int .i64 mv]) (by simp [results, Try.results83, go_sem, cr]) rfl ⟨rfl, ?_⟩
      exact grown_setNew (grown_setNew (grown_new (unhide HG0) hgk (fun g e => by simp at e; omega)) _ _ _ (by omega)) _ _ _ (by omega)

end Go.Proofs.Ytoeehfjbnbbijaa
