/-
  Geometry in the program: planes, units, blocks, and the two functions that tell them.
-/
import Derived.Test.YtoeehfjbnbbijaaGeoRegion
namespace Go.Proofs.Ytoeehfjbnbbijaa
open Go.RowKit

def actP (X : Array Value) (c : Int) (rx : Nat) (v : Nat → Value) : Act := { tmps := #[.agg X, .int .i64 c, .pointer (some ⟨rx, 0, none⟩), undef, .pointer (some ⟨rx + 1, 0, none⟩), v 5, v 6, v 7, v 8, v 9, v 10, v 11, undef, undef, undef, undef, undef, undef, undef, undef, undef, undef, undef, undef, undef, undef, undef, undef, undef], defers := [] }

set_option maxRecDepth 20000 in
set_option maxHeartbeats 3200000 in
theorem plane (X : Array Value) (p wd ht rs : Int) (n : Nat) (C : Nat → Nat → Int) (hX : Fx X p wd ht rs n C) (mh mv : Int) (hg : Geo wd ht n C mh mv) (c : Nat) (hc : c < n) (u v : Int) (HU : Hid (upI (wd * C c 1) mh = u)) (HV : Hid (upI (ht * C c 2) mv = v)) (w : World) :
    Calls Try.prog 64 #[.agg X, .int .i64 c] w fun e w' => e = .returned (.agg #[.int .i64 u, .int .i64 v]) ∧ w.grownBy w' none := by
  have hs := hX.size
  have hn4 := hg.n4
  have F1 := hide (fun w => shares X p wd ht rs n C hX c (by omega) w)
  have F2 := hide (fun w => most X p wd ht rs n C hX hg.n4 mh mv hg.h0 hg.v0 w)
  have HX1 := hX.c1
  have HX2 := hX.c2
  obtain ⟨h1, h2⟩ : (1 ≤ C c 1 ∧ C c 1 ≤ 4) ∧ (1 ≤ C c 2 ∧ C c 2 ≤ 4) := ⟨hg.ch c hc, hg.cv c hc⟩
  have hmh := hg.hb
  have hmv := hg.vb
  have hwd := hg.wd
  have hht := hg.ht
  have P1 := mul_share (a := wd) ⟨hwd.1, by omega⟩ h1
  have P2 := mul_share (a := ht) ⟨hht.1, by omega⟩ h2
  obtain ⟨wx, hW0⟩ : ∃ wx, ((w.alloc (.cells X 80)).alloc (.cells #[.int .i64 0, .int .i64 0] 98)) = wx := ⟨_, rfl⟩
  have G0 : w.grownBy wx none := by rw [← hW0]; exact grown_alloc (grown_alloc (World.grownBy.refl _ _) _) _
  have b0 : wx.heap[w.heap.size]? = some (.cells X 80 (0, 0)) := by
    rw [← hW0, Below.heap_alloc _ _ _ (by simp)]
    exact heap_alloc_new w _
  have b1 : wx.heap[w.heap.size + 1]? = some (.cells #[.int .i64 0, .int .i64 0] 98 (0, 0)) := by
    rw [← hW0]
    have := heap_alloc_new (w.alloc (.cells X 80)) (.cells #[.int .i64 0, .int .i64 0] 98)
    simpa using this
  have hsz : wx.heap.size = w.heap.size + 2 := by rw [← hW0]; simp
  have HW := hide hW0
  have B0 := hide b0
  have B1 := hide b1
  have HG0 := hide G0
  clear hW0 b0 b1 G0
  clear hX hg
  go_enter Try.func64, Try.ntmps64
  go_wp2
  rw [unhide HW]
  clear HW
  generalize C c 1 = c1 at *
  generalize C c 2 = c2 at *
  have hw1 := i64_in (wd * c1) (by omega)
  have hw2 := i64_in (ht * c2) (by omega)
  refine wp_region_steps (fun listed a w' => ∃ v, a = actP X c w.heap.size v ∧ InvA wx X c c1 c2 mh mv v listed w') (by kernel_rfl) (by kernel_rfl) ?start ?steps ?done

  case start =>
    exact ⟨fun _ => undef, rfl, grown_drew (World.grownBy.refl _ _), fun h => absurd h (not_done_start _ _), fun h => absurd h (not_done_start _ _), fun h => absurd h (not_done_start _ _), fun h => absurd h (not_done_start _ _), fun h => absurd h (not_done_start _ _), fun h => absurd h (not_done_start _ _), fun h => absurd h (not_done_start _ _), fun h => absurd h (not_done_start _ _), fun h => absurd h (not_done_start _ _), fun h => absurd h (not_done_start _ _)⟩
  case steps =>
    have xB : ∀ w1, wx.grownBy w1 none → w1.heap[w.heap.size]? = some (.cells X 80 (0, 0)) := fun w1 g => (g.block w.heap.size (by omega) (by simp)).trans (unhide B0)
    refine ⟨?_, ?_⟩
    · rintro listed a w1 hi hnd hd ⟨v, rfl, hJ⟩ K hK
      unfold actP
      rw [if_pos (by rfl)]
      refine wp_load_mid 80 _ rfl w.heap.size 0 rfl X.toList _ (fun j u hu => by rw [cell_of_row w1 w.heap.size (0 + j) X _ (0, 0) (xB w1 hJ.grown)]; simpa using hu) Try.underlying80 rfl (by simp only [Array.length_toList]; rw [hs]; kernel_rfl) ?_
      exact hK.out _ _ ⟨_, rfl, hJ.step hi (World.grownBy.refl _ none) (x := .agg X) rfl⟩
    refine ⟨?_, ?_⟩
    · rintro listed a w1 hi hnd hd ⟨v, rfl, hJ⟩ K hK
      unfold actP
      go_simp
      exact hK.out _ _ ⟨_, rfl, hJ.step hi (World.grownBy.refl _ none) (x := .int .i64 c) rfl⟩
    refine ⟨?_, ?_⟩
    · rintro listed a w1 hi hnd hd ⟨v, rfl, hJ⟩ K hK
      have hd' : depsF listed [{ on := 0, ground := .data }, { on := 1, ground := .data }] := hd
      simp only [depsF, and_true] at hd'
      have e7 := hJ.d0 (hd'.1 (by rfl))
      have e8 := hJ.d1 (hd'.2 (by rfl))
      unfold actP
      rw [e7, e8]
      go_simp
      refine (unhide F1 w1).mono ?_
      rintro e w2 ⟨rfl, g2⟩
      exact hK.out _ _ ⟨updA v 9 _, (by simp [actP, updA, e7, e8]), hJ.step hi g2 rfl⟩
    refine ⟨?_, ?_⟩
    · rintro listed a w1 hi hnd hd ⟨v, rfl, hJ⟩ K hK
      unfold actP
      rw [if_pos (by rfl)]
      refine wp_load_mid 80 _ rfl w.heap.size 0 rfl X.toList _ (fun j u hu => by rw [cell_of_row w1 w.heap.size (0 + j) X _ (0, 0) (xB w1 hJ.grown)]; simpa using hu) Try.underlying80 rfl (by simp only [Array.length_toList]; rw [hs]; kernel_rfl) ?_
      exact hK.out _ _ ⟨_, rfl, hJ.step hi (World.grownBy.refl _ none) (x := .agg X) rfl⟩
    refine ⟨?_, ?_⟩
    · rintro listed a w1 hi hnd hd ⟨v, rfl, hJ⟩ K hK
      have hd' : depsF listed [{ on := 3, ground := .data }, { on := 2, ground := .chain }] := hd
      simp only [depsF, and_true] at hd'
      have e10 := hJ.d3 (hd'.1 (by rfl))
      unfold actP
      rw [e10]
      go_simp
      refine (unhide F2 w1).mono ?_
      rintro e w2 ⟨rfl, g2⟩
      exact hK.out _ _ ⟨updA v 11 _, (by simp [actP, updA, e10]), hJ.step hi g2 rfl⟩
    refine ⟨?_, ?_⟩
    · rintro listed a w1 hi hnd hd ⟨v, rfl, hJ⟩ K hK
      unfold actP
      go_simp
      exact hK.out _ _ ⟨_, rfl, hJ.alloc hi (.inl rfl) hnd⟩
    refine ⟨?_, ?_⟩
    · rintro listed a w1 hi hnd hd ⟨v, rfl, hJ⟩ K hK
      unfold actP
      go_simp
      exact hK.out _ _ ⟨_, rfl, hJ.alloc hi (.inr rfl) hnd⟩
    refine ⟨?_, ?_⟩
    · rintro listed a w1 hi hnd hd ⟨v, rfl, hJ⟩ K hK
      have d5 := depsF_mem hd { on := 5, ground := .data } (by simp) rfl
      have e9 := hJ.d2 (depsF_mem hd { on := 2, ground := .data } (by simp) rfl)
      obtain ⟨g, e5, hge, x, y, hb, _⟩ := hJ.d5 d5
      have cf := areaCells hb
      unfold actP
      rw [e5, e9]
      go_simp
      exact hK.out _ _ ⟨v, (by simp [actP, e5, e9]), hJ.store5 hi e5 d5⟩
    refine ⟨?_, trivial⟩
    · rintro listed a w1 hi hnd hd ⟨v, rfl, hJ⟩ K hK
      have d6 := depsF_mem hd { on := 6, ground := .data } (by simp) rfl
      have e11 := hJ.d4 (depsF_mem hd { on := 4, ground := .data } (by simp) rfl)
      obtain ⟨g, e6, hge, x, y, hb, _⟩ := hJ.d6 d6
      have cf := areaCells hb
      unfold actP
      rw [e6, e11]
      go_simp
      exact hK.out _ _ ⟨v, (by simp [actP, e6, e11]), hJ.store6 hi e6 d6⟩
  case done =>
    rintro listed a w1 hall ⟨v, rfl, hJ⟩
    obtain ⟨g5, e5, hge5, x5, y5, hb5, l5⟩ := hJ.d5 (hall 5 (by decide))
    obtain ⟨g6, e6, hge6, x6, y6, hb6, l6⟩ := hJ.d6 (hall 6 (by decide))
    obtain ⟨rfl, rfl⟩ := l5 (hall 7 (by decide))
    obtain ⟨rfl, rfl⟩ := l6 (hall 8 (by decide))
    have hB := (hJ.grown.block w.heap.size (by omega) (by simp)).trans (unhide B0)
    have hR := (hJ.grown.block (w.heap.size + 1) (by omega) (by simp)).trans (unhide B1)
    have gJ := hJ.grown
    have hne : g5 ≠ g6 := fun e => hJ.ne (hall 5 (by decide)) (hall 6 (by decide)) (by rw [e5, e6, e])
    unfold actP
    rw [e5, e6]
    clear hall hJ l5 l6 e5 e6
    generalize v 7 = v7
    generalize v 8 = v8
    generalize v 9 = v9
    generalize v 10 = v10
    generalize v 11 = v11
    clear v

    have cx1 : w1.cell? ⟨w.heap.size, 1, none⟩ = some (.int .i64 wd) := by rw [cell_of_row w1 _ 1 _ _ (0, 0) hB]; exact HX1
    have cx2 : w1.cell? ⟨w.heap.size, 2, none⟩ = some (.int .i64 ht) := by rw [cell_of_row w1 _ 2 _ _ (0, 0) hB]; exact HX2
    obtain ⟨c50, c51, _, _⟩ := areaCells hb5
    obtain ⟨c60, c61, _, _⟩ := areaCells hb6
    obtain ⟨cr0, cr1, f0, f1⟩ := areaCells hR
    clear hb5 hb6 hB F1 F2
    have KEEP : Hid (∀ u v, (putA w1 (w.heap.size + 1) u v).cell? ⟨w.heap.size, 1, none⟩ = some (.int .i64 wd) ∧ (putA w1 (w.heap.size + 1) u v).cell? ⟨w.heap.size, 2, none⟩ = some (.int .i64 ht) ∧ (putA w1 (w.heap.size + 1) u v).cell? ⟨g5, 0, none⟩ = some (.int .i64 x5) ∧ (putA w1 (w.heap.size + 1) u v).cell? ⟨g5, 1, none⟩ = some (.int .i64 y5) ∧ (putA w1 (w.heap.size + 1) u v).cell? ⟨g6, 0, none⟩ = some (.int .i64 x6) ∧ (putA w1 (w.heap.size + 1) u v).cell? ⟨g6, 1, none⟩ = some (.int .i64 y6)) := fun u v => ⟨(putA_grown _ _ _ _).cell cx1 (by simp), (putA_grown _ _ _ _).cell cx2 (by simp), (putA_grown _ _ _ _).cell c50 (by simp; omega), (putA_grown _ _ _ _).cell c51 (by simp; omega), (putA_grown _ _ _ _).cell c60 (by simp; omega), (putA_grown _ _ _ _).cell c61 (by simp; omega)⟩
    go_wp2
    go_region_held3 (fun w' => w'.cell? ⟨w.heap.size, 1, none⟩ = some (.int .i64 wd) ∧ w'.cell? ⟨w.heap.size, 2, none⟩ = some (.int .i64 ht) ∧ w'.cell? ⟨g5, 0, none⟩ = some (.int .i64 x5) ∧ w'.cell? ⟨g5, 1, none⟩ = some (.int .i64 y5) ∧ w'.cell? ⟨g6, 0, none⟩ = some (.int .i64 x6) ∧ w'.cell? ⟨g6, 1, none⟩ = some (.int .i64 y6)) (first | exact ⟨cx1, cx2, c50, c51, c60, c61⟩ | exact unhide KEEP _ _) (first | (go_at_call_of 84 (Value.int .i64 (wd * x5)); refine (divUp _ _ u (by omega) (by omega) HU _).mono ?_; rintro e w2 ⟨rfl, rfl⟩) | (go_at_call_of 84 (Value.int .i64 (ht * y5)); refine (divUp _ _ v (by omega) (by omega) HV _).mono ?_; rintro e w2 ⟨rfl, rfl⟩))
    go_wp2
    refine bodyPost_ret (v := .agg #[.int .i64 u, .int .i64 v]) (by simp [results, Try.results64, go_sem, cr0, cr1]) rfl ⟨rfl, ?_⟩
    exact grown_drew (grown_setNew (grown_setNew (grown_trans (unhide HG0) gJ) _ _ _ (by omega)) _ _ _ (by omega))

/-- Two numbers rounded up, laid into the answer. -/
theorem unitsOf_bounds {a m : Int} (ha : 1 ≤ a ∧ a ≤ 256) (hm : 1 ≤ m ∧ m ≤ 4) : 1 ≤ upI a (8 * m) ∧ upI a (8 * m) ≤ a := upI_pos ha.1 (by omega)

set_option maxRecDepth 20000 in
set_option maxHeartbeats 3200000 in
theorem units (X : Array Value) (p wd ht rs : Int) (n : Nat) (C : Nat → Nat → Int) (hX : Fx X p wd ht rs n C) (mh mv : Int) (hg : Geo wd ht n C mh mv) (u v : Int) (HU : Hid (upI wd (8 * mh) = u)) (HV : Hid (upI ht (8 * mv) = v)) (w : World) :
    Calls Try.prog 75 #[.agg X] w fun e w' => e = .returned (.agg #[.int .i64 u, .int .i64 v]) ∧ w.grownBy w' none := by
  have hs := hX.size
  have F2 := hide (fun w => most X p wd ht rs n C hX hg.n4 mh mv hg.h0 hg.v0 w)
  have HX1 := hX.c1
  have HX2 := hX.c2
  have hmh := hg.hb
  have hmv := hg.vb
  have hwd := hg.wd
  have hht := hg.ht
  obtain ⟨wx, hW0⟩ : ∃ wx, ((w.alloc (.cells X 80)).alloc (.cells #[.int .i64 0, .int .i64 0] 98)) = wx := ⟨_, rfl⟩
  have G0 : w.grownBy wx none := by rw [← hW0]; exact grown_alloc (grown_alloc (World.grownBy.refl _ _) _) _
  have b0 : wx.heap[w.heap.size]? = some (.cells X 80 (0, 0)) := by
    rw [← hW0, Below.heap_alloc _ _ _ (by simp)]
    exact heap_alloc_new w _
  have b1 : wx.heap[w.heap.size + 1]? = some (.cells #[.int .i64 0, .int .i64 0] 98 (0, 0)) := by
    rw [← hW0]
    have := heap_alloc_new (w.alloc (.cells X 80)) (.cells #[.int .i64 0, .int .i64 0] 98)
    simpa using this
  have hsz : wx.heap.size = w.heap.size + 2 := by rw [← hW0]; simp
  have HW := hide hW0
  have B0 := hide b0
  have B1 := hide b1
  have HG0 := hide G0
  clear hW0 b0 b1 G0
  clear hX hg
  have hw1 := i64_in (8 * mh) (by omega)
  have hw2 := i64_in (8 * mv) (by omega)
  have bB := unhide B0
  go_enter Try.func75, Try.ntmps75
  go_wp2_with (first | (rw [unhide HW]; refine wpList_load_row rfl 80 _ rfl w.heap.size rfl X 80 bB _ Try.underlying80 rfl (by rw [hs]; kernel_rfl) ?_))
  refine (unhide F2 wx).mono ?_
  rintro e w1 ⟨rfl, g1⟩
  obtain ⟨W2, hW2⟩ : ∃ W2, w1.alloc (.cells #[.int .i64 mh, .int .i64 mv] 98) = W2 := ⟨_, rfl⟩
  have g2 : wx.grownBy W2 none := by rw [← hW2]; exact grown_alloc g1 _
  have hb6 : W2.heap[w1.heap.size]? = some (.cells #[.int .i64 mh, .int .i64 mv] 98 (0, 0)) := by rw [← hW2]; exact heap_alloc_new _ _
  have hs1 := g1.size
  have hB := (g2.block w.heap.size (by omega) (by simp)).trans (unhide B0)
  have hR := (g2.block (w.heap.size + 1) (by omega) (by simp)).trans (unhide B1)
  have cx1 : W2.cell? ⟨w.heap.size, 1, none⟩ = some (.int .i64 wd) := by rw [cell_of_row W2 _ 1 _ _ (0, 0) hB]; exact HX1
  have cx2 : W2.cell? ⟨w.heap.size, 2, none⟩ = some (.int .i64 ht) := by rw [cell_of_row W2 _ 2 _ _ (0, 0) hB]; exact HX2
  obtain ⟨c60, c61, _, _⟩ := areaCells hb6
  obtain ⟨cr0, cr1, f0, f1⟩ := areaCells hR
  have KEEP : Hid (∀ u v, (putA W2 (w.heap.size + 1) u v).cell? ⟨w.heap.size, 1, none⟩ = some (.int .i64 wd) ∧ (putA W2 (w.heap.size + 1) u v).cell? ⟨w.heap.size, 2, none⟩ = some (.int .i64 ht) ∧ (putA W2 (w.heap.size + 1) u v).cell? ⟨w1.heap.size, 0, none⟩ = some (.int .i64 mh) ∧ (putA W2 (w.heap.size + 1) u v).cell? ⟨w1.heap.size, 1, none⟩ = some (.int .i64 mv)) := fun u v => ⟨(putA_grown _ _ _ _).cell cx1 (by simp), (putA_grown _ _ _ _).cell cx2 (by simp), (putA_grown _ _ _ _).cell c60 (by simp; omega), (putA_grown _ _ _ _).cell c61 (by simp; omega)⟩
  have HW2 := hide hW2
  clear hW2 hb6 hB F2 hR
  go_wp2
  rw [unhide HW2]
  clear HW2
  go_region_held3 (fun w' => w'.cell? ⟨w.heap.size, 1, none⟩ = some (.int .i64 wd) ∧ w'.cell? ⟨w.heap.size, 2, none⟩ = some (.int .i64 ht) ∧ w'.cell? ⟨w1.heap.size, 0, none⟩ = some (.int .i64 mh) ∧ w'.cell? ⟨w1.heap.size, 1, none⟩ = some (.int .i64 mv)) (first | exact ⟨cx1, cx2, c60, c61⟩ | exact unhide KEEP _ _) (first | (go_at_call_of 84 (Value.int .i64 wd); refine (divUp _ _ u (by omega) (by omega) HU _).mono ?_; rintro e w2 ⟨rfl, rfl⟩) | (go_at_call_of 84 (Value.int .i64 ht); refine (divUp _ _ v (by omega) (by omega) HV _).mono ?_; rintro e w2 ⟨rfl, rfl⟩))
  go_wp2
  refine bodyPost_ret (v := .agg #[.int .i64 u, .int .i64 v]) (by simp [results, Try.results75, go_sem, cr0, cr1]) rfl ⟨rfl, ?_⟩
  exact grown_drew (grown_setNew (grown_setNew (grown_trans (unhide HG0) g2) _ _ _ (by omega)) _ _ _ (by omega))

end Go.Proofs.Ytoeehfjbnbbijaa
