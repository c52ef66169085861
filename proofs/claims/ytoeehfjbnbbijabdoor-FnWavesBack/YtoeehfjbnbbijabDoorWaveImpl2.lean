/-
  Waves in the program: what becomes of a line.
-/
import Derived.Test.YtoeehfjbnbbijabDoorWaveImpl
import Derived.Test.YtoeehfjbnbbijabDoorQuietLast
namespace Go.Proofs.YtoeehfjbnbbijabDoor
open Go.RowKit Go.Shelf

/-- Eight numbers of f. -/
def made8 (f : Nat → Int) : List Int := (List.range 8).map f
theorem made8_len (f : Nat → Int) : (made8 f).length = 8 := by simp [made8]
theorem made8_at (f : Nat → Int) (i : Nat) (h : i < 8) : (made8 f).getD i 0 = f i := by simp [made8, h]
theorem made8_congr {f g : Nat → Int} (h : ∀ p, p < 8 → f p = g p) : made8 f = made8 g := by
  unfold made8
  apply List.map_congr_left
  intro p hp
  exact h p (by simpa using hp)
theorem made8_set (f : Nat → Int) (j : Nat) (v : Int) (hj : j < 8) : (sq (made8 f)).setIfInBounds j (.int .i64 v) = sq (made8 (fun p => if p = j then v else f p)) := by
  apply Array.ext_getElem?
  intro i
  by_cases hi : i < 8
  · rw [Array.getElem?_setIfInBounds, sq_at _ i (by rw [made8_len]; exact hi), sq_at _ i (by rw [made8_len]; exact hi), sq_size, made8_len, made8_at _ i hi, made8_at _ i hi]
    by_cases e : j = i
    · subst e; simp [hj]
    · simp [e, Ne.symm e]
  · rw [Array.getElem?_eq_none (by simp [sq_size, made8_len]; omega), Array.getElem?_eq_none (by simp [sq_size, made8_len]; omega)]
def zs8 : List Int := List.replicate 8 0
theorem zs8_len : zs8.length = 8 := by simp [zs8]
theorem sq_z8 : sq zs8 = #[.int .i64 0, .int .i64 0, .int .i64 0, .int .i64 0, .int .i64 0, .int .i64 0, .int .i64 0, .int .i64 0] := by rfl

/-- How much of each wave is in a line, behind k steps. -/
def wavesF (ls : List Int) (v x : Nat) : Int := ls.getD x 0 * wv (8 * v + x)
def wavesTo (ls : List Int) (k : Nat) : List Int := made8 (fun v => sumTo (wavesF ls v) (min (k - 8 * v) 8))
def wavesL (ls : List Int) : List Int := made8 (fun v => sumTo (wavesF ls v) 8)
/-- So much of each wave laid together, behind k steps. -/
def samplesF (ls : List Int) (x u : Nat) : Int := ls.getD u 0 * wv (8 * u + x)
def samplesTo (ls : List Int) (k : Nat) : List Int := made8 (fun x => sumTo (samplesF ls x) ((k + 7 - x) / 8))
def samplesL (ls : List Int) : List Int := made8 (fun x => sumTo (samplesF ls x) 8)

theorem wavesTo_zero (ls : List Int) : wavesTo ls 0 = zs8 := by
  refine (made8_congr (g := fun _ => 0) (fun v _ => ?_)).trans (by rfl)
  rw [show min (0 - 8 * v) 8 = 0 by omega]; rfl
theorem samplesTo_zero (ls : List Int) : samplesTo ls 0 = zs8 := by
  refine (made8_congr (g := fun _ => 0) (fun x hx => ?_)).trans (by rfl)
  rw [show (0 + 7 - x) / 8 = 0 by omega]; rfl
theorem wavesTo_all (ls : List Int) : wavesTo ls 64 = wavesL ls := made8_congr (fun v hv => by rw [show min (64 - 8 * v) 8 = 8 by omega])
theorem samplesTo_all (ls : List Int) : samplesTo ls 64 = samplesL ls := made8_congr (fun x hx => by rw [show (64 + 7 - x) / 8 = 8 by omega])
theorem waves_at (ls : List Int) (k : Nat) (h : k < 64) : (wavesTo ls k).getD (k / 8) 0 = sumTo (wavesF ls (k / 8)) (k % 8) := by
  rw [wavesTo, made8_at _ _ (by omega), show min (k - 8 * (k / 8)) 8 = k % 8 by omega]
theorem samples_at (ls : List Int) (k : Nat) (h : k < 64) : (samplesTo ls k).getD (k % 8) 0 = sumTo (samplesF ls (k % 8)) (k / 8) := by
  rw [samplesTo, made8_at _ _ (by omega), show (k + 7 - k % 8) / 8 = k / 8 by omega]
theorem waves_set (ls : List Int) (k : Nat) (h : k < 64) (s : Int) (hs : s = sumTo (wavesF ls (k / 8)) (k % 8) + ls.getD (k % 8) 0 * wv k) : (sq (wavesTo ls k)).setIfInBounds (k / 8) (.int .i64 s) = sq (wavesTo ls (k + 1)) := by
  subst hs
  unfold wavesTo
  rw [made8_set _ _ _ (by omega)]
  congr 1
  apply made8_congr
  intro v hv
  by_cases e : v = k / 8
  · subst e
    rw [if_pos rfl, show min (k + 1 - 8 * (k / 8)) 8 = k % 8 + 1 by omega]
    show _ = sumTo _ (k % 8) + wavesF ls (k / 8) (k % 8)
    unfold wavesF
    rw [show 8 * (k / 8) + k % 8 = k by omega]
  · rw [if_neg e, show min (k + 1 - 8 * v) 8 = min (k - 8 * v) 8 by omega]
theorem samples_set (ls : List Int) (k : Nat) (h : k < 64) (s : Int) (hs : s = sumTo (samplesF ls (k % 8)) (k / 8) + ls.getD (k / 8) 0 * wv k) : (sq (samplesTo ls k)).setIfInBounds (k % 8) (.int .i64 s) = sq (samplesTo ls (k + 1)) := by
  subst hs
  unfold samplesTo
  rw [made8_set _ _ _ (by omega)]
  congr 1
  apply made8_congr
  intro x hx
  by_cases e : x = k % 8
  · subst e
    rw [if_pos rfl, show (k + 1 + 7 - k % 8) / 8 = k / 8 + 1 by omega]
    show _ = sumTo _ (k / 8) + samplesF ls (k % 8) (k / 8)
    unfold samplesF
    rw [show 8 * (k / 8) + k % 8 = k by omega]
  · rw [if_neg e, show (k + 1 + 7 - x) / 8 = (k + 7 - x) / 8 by omega]

/-- Lines whose numbers are not too great. -/
def LineIn (M : Int) (ls : List Int) : Prop := ls.length = 8 ∧ ∀ x, x < 8 → -M ≤ ls.getD x 0 ∧ ls.getD x 0 ≤ M
theorem sum_in {f : Nat → Int} {n : Nat} {M : Int} (hn : n ≤ 8) (hM : 0 ≤ M) (h : ∀ i, i < n → -M ≤ f i ∧ f i ≤ M) : -(8 * M) ≤ sumTo f n ∧ sumTo f n ≤ 8 * M := by
  have h1 := sumTo_bound h
  have h2 : (n : Int) * M ≤ 8 * M := Int.mul_le_mul_of_nonneg_right (by omega) hM
  omega
theorem prod_in {M : Int} {ls : List Int} (h : LineIn M ls) {x k : Nat} (hx : x < 8) (hk : k < 64) : -(M * 2048) ≤ ls.getD x 0 * wv k ∧ ls.getD x 0 * wv k ≤ M * 2048 := mul_within (h.2 x hx) (wv_in k hk)

set_option maxRecDepth 20000 in
set_option maxHeartbeats 3200000 in
theorem toWaves (ls : List Int) (hl : LineIn 1000000000 ls) (w : World) :
    Calls Tryd.prog 19 #[.agg (sq ls), .agg (sq wvL)] w fun e w' => e = .returned (.agg (sq (wavesL ls))) ∧ w.grownBy w' none := by
  have hlen := hl.1
  obtain ⟨W0, hW0⟩ : ∃ W0, (((w.alloc (.cells (sq ls) 42)).alloc (.cells (sq wvL) 35)).alloc (.cells #[.int .i64 0, .int .i64 0, .int .i64 0, .int .i64 0, .int .i64 0, .int .i64 0, .int .i64 0, .int .i64 0] 42)).alloc (.cells #[.int .i64 0, .int .i64 0, .int .i64 0, .int .i64 0, .int .i64 0, .int .i64 0, .int .i64 0, .int .i64 0] 42) = W0 := ⟨_, rfl⟩
  have G0 : w.grownBy W0 none := by rw [← hW0]; exact grown_alloc (grown_alloc (grown_alloc (World.grownBy_alloc _ _ _) _) _) _
  have b0 : W0.heap[w.heap.size]? = some (.cells (sq ls) 42 (0, 0)) := by rw [← hW0, Below.heap_alloc _ _ _ (by simp; omega), Below.heap_alloc _ _ _ (by simp; omega), Below.heap_alloc _ _ _ (by simp)]; exact heap_alloc_new w _
  have b1 : W0.heap[w.heap.size + 1]? = some (.cells (sq wvL) 35 (0, 0)) := by
    rw [← hW0, Below.heap_alloc _ _ _ (by simp), Below.heap_alloc _ _ _ (by simp)]
    have := heap_alloc_new (w.alloc (.cells (sq ls) 42)) (.cells (sq wvL) 35)
    simpa using this
  have b2 : W0.heap[w.heap.size + 2]? = some (.cells (sq zs8) 42 (0, 0)) := by
    rw [← hW0, Below.heap_alloc _ _ _ (by simp), sq_z8]
    have := heap_alloc_new ((w.alloc (.cells (sq ls) 42)).alloc (.cells (sq wvL) 35)) (.cells #[.int .i64 0, .int .i64 0, .int .i64 0, .int .i64 0, .int .i64 0, .int .i64 0, .int .i64 0, .int .i64 0] 42)
    simpa using this
  have b3 : W0.heap[w.heap.size + 3]? = some (.cells #[.int .i64 0, .int .i64 0, .int .i64 0, .int .i64 0, .int .i64 0, .int .i64 0, .int .i64 0, .int .i64 0] 42 (0, 0)) := by
    rw [← hW0]
    have := heap_alloc_new (((w.alloc (.cells (sq ls) 42)).alloc (.cells (sq wvL) 35)).alloc (.cells #[.int .i64 0, .int .i64 0, .int .i64 0, .int .i64 0, .int .i64 0, .int .i64 0, .int .i64 0, .int .i64 0] 42)) (.cells #[.int .i64 0, .int .i64 0, .int .i64 0, .int .i64 0, .int .i64 0, .int .i64 0, .int .i64 0, .int .i64 0] 42)
    simpa using this
  have s0 : W0.heap.size = w.heap.size + 4 := by rw [← hW0]; simp
  have HW := hide hW0
  have B0 := hide b0
  have B1 := hide b1
  have B2 := hide b2
  have B3 := hide b3
  have HG0 := hide G0
  have HL := hide hl
  have HS : Hid ((sq wvL).size = 64) := by unfold Hid; rw [sq_size, wv_len]
  clear hW0 b0 b1 b2 b3 G0 hl
  go_enter Tryd.func19, Tryd.ntmps19
  go_wp2_with (first | (rw [unhide HW]; clear HW; refine store_row rfl 42 _ _ rfl (w.heap.size + 3) rfl #[.int .i64 0, .int .i64 0, .int .i64 0, .int .i64 0, .int .i64 0, .int .i64 0, .int .i64 0, .int .i64 0] rfl #[.int .i64 0, .int .i64 0, .int .i64 0, .int .i64 0, .int .i64 0, .int .i64 0, .int .i64 0, .int .i64 0] 42 (unhide B3) rfl (by kernel_rfl) (by rw [← sq_z8]; exact sq_one _) ?_; intro w3 hB3 g3; rw [← sq_z8] at hB3) | (refine load_row rfl 35 _ rfl (w.heap.size + 1) rfl (sq wvL) 35 ((g3.block (w.heap.size + 1) (by omega) (by simp)).trans (unhide B1)) _ Tryd.underlying35 rfl (by rw [unhide HS]; kernel_rfl) ?_))
  have s3 := g3.size
  have HR3 := hide ((g3.block (w.heap.size + 2) (by omega) (by simp)).trans (unhide B2))
  have HI3 := hide ((g3.block w.heap.size (by omega) (by simp)).trans (unhide B0))
  have HG3 : Hid (w.grownBy w3 none) := grown_new (unhide HG0) g3 (fun g e => by simp at e; omega)
  have HB3 := hide hB3
  clear hB3 g3
  go_loopw [10] (fun i wr => ∃ k : Nat, k ≤ 64 ∧ i = .int .i64 k ∧ Hid (wr.heap[w.heap.size + 3]? = some (.cells (sq (wavesTo ls k)) 42 (0, 0))) ∧ Hid (w3.grownBy wr (some (w.heap.size + 3)))) (fun i _ => 64 - (intOf i).toNat)
  case atStart => exact ⟨0, Nat.zero_le _, rfl, by unfold Hid; rw [wavesTo_zero]; exact unhide HB3, World.grownBy.refl _ _⟩
  case round =>
    obtain ⟨k, hk, rfl, hM, hgk⟩ := hrel
    by_cases hlt : k < 64
    · obtain ⟨q, hq⟩ : ∃ q, k / 8 = q := ⟨_, rfl⟩
      obtain ⟨r, hr⟩ : ∃ r, k % 8 = r := ⟨_, rfl⟩
      have hq8 : q < 8 := by omega
      have hr8 : r < 8 := by omega
      have hqI : (k : Int) / 8 = (q : Int) := by omega
      have hrI : (k : Int) % 8 = (r : Int) := by omega
      have hq8I : (q : Int) < 8 := by omega
      have hr8I : (r : Int) < 8 := by omega
      have hat := fun w => idx wv_len (k : Int) (by omega) (by omega) w
      simp only [Int.toNat_natCast] at hat
      have hp := prod_in (unhide HL) (x := r) (k := k) (by omega) hlt
      have hsum := sum_in (f := wavesF ls q) (n := r) (M := 2048000000000) (by omega) (by omega) (fun i hi => prod_in (unhide HL) (by omega) (by omega))
      have c0 := sq_cell (((unhide hgk).block w.heap.size (by omega) (by simp)).trans (unhide HI3)) r (by omega)
      have c3 := sq_cell (unhide hM) q (by rw [wavesTo, made8_len]; omega)
      have f3 := sq_frozen (unhide hM) q
      have hold : (wavesTo ls k).getD q 0 = sumTo (wavesF ls q) r := by rw [← hq, ← hr]; exact waves_at ls k hlt
      rw [hold] at c3
      have HSET : Hid (∀ (W : World) (s : Int), wr.grownBy W none → s = sumTo (wavesF ls q) r + ls.getD r 0 * wv k → (W.setCell ⟨w.heap.size + 3, q, none⟩ (.int .i64 s)).heap[w.heap.size + 3]? = some (.cells (sq (wavesTo ls (k + 1))) 42 (0, 0)) ∧ w3.grownBy (W.setCell ⟨w.heap.size + 3, q, none⟩ (.int .i64 s)) (some (w.heap.size + 3))) := by
        intro W s hg hs
        have hM2 := (hg.block (w.heap.size + 3) (Array.getElem?_eq_some_iff.1 (unhide hM)).1 (by simp)).trans (unhide hM)
        refine ⟨?_, grown_trans (grown_trans (unhide hgk) (grown_any hg)) (grown_set W _ _ _)⟩
        rw [heap_setCell_same W (w.heap.size + 3) _ _ _ _ hM2]
        have h := waves_set ls k hlt s (by rw [hq, hr]; exact hs)
        rw [hq] at h
        rw [h]
      have hkv : wvL.getD k 0 = wv k := rfl
      rw [hkv] at hat
      clear hold hq hr hkv hM
      generalize sumTo (wavesF ls q) r = S at *
      generalize ls.getD r 0 = L at *
      generalize wv k = V at *
      have ewq := i64_in (q : Int) (by omega)
      have hrT : (k : Int).tmod 8 = (r : Int) := by rw [Int.tmod_eq_emod_of_nonneg (by omega)]; exact hrI
      have ewr := i64_in (r : Int) (by omega)
      have e1 := i64_in (L * V) (by omega)
      have e2 := i64_in (S + L * V) (by omega)
      go_wp2
      refine wp_region_last 20 _ (by kernel_rfl) rfl rfl (by kernel_rfl) ?_
      dsimp only [List.dropLast]
      repeat (go_big_quiet_step (fail))
      refine wpQuiet_nil ?_
      intro nq
      have HSN := hide (unhide HSET (wr.drewN nq) (S + L * V) (grown_drewN (World.grownBy.refl _ _) nq) rfl)
      clear hat hp hsum HSET
      go_wp2
      go_roundw
      case rel => exact ⟨k + 1, by omega, by go_num, (unhide HSN).1, (unhide HSN).2⟩
      case measure => simp [intOf]; omega
    · obtain rfl : k = 64 := by omega
      have hM := unhide hM
      rw [wavesTo_all] at hM
      have HM := hide hM
      have HBR := hide (((unhide hgk).block (w.heap.size + 2) (by omega) (by simp)).trans (unhide HR3))
      have HMS : Hid ((sq (wavesL ls)).size = 8) := by unfold Hid; rw [sq_size, wavesL, made8_len]
      have HGF : Hid (w.grownBy wr none) := grown_new (unhide HG3) (unhide hgk) (fun g e => by simp at e; omega)
      clear hM hgk
      go_wp2_with (first | (refine load_row rfl 42 _ rfl (w.heap.size + 3) rfl (sq (wavesL ls)) 42 (unhide HM) _ Tryd.underlying42 rfl (by rw [unhide HMS]; kernel_rfl) ?_) | (refine store_row rfl 42 _ _ rfl (w.heap.size + 2) rfl (sq (wavesL ls)) rfl (sq zs8) 42 (unhide HBR) (by rw [unhide HMS, sq_size, zs8_len]) (by rw [unhide HMS]; kernel_rfl) (sq_one _) ?_; intro w6 hB6 g6))
      refine bodyPost_ret (v := .agg (sq (wavesL ls))) ?_ rfl ⟨rfl, ?_⟩
      · rw [results_c1 rfl]
        exact run_loadVar_row w6 _ 42 42 _ (0, 0) _ hB6 Tryd.underlying42 rfl (by rw [unhide HMS]; kernel_rfl)
      · exact grown_new (unhide HGF) g6 (fun g e => by simp at e; omega)

set_option maxRecDepth 20000 in
set_option maxHeartbeats 3200000 in
theorem toSamples (ls : List Int) (hl : LineIn 1000000000 ls) (w : World) :
    Calls Tryd.prog 26 #[.agg (sq ls), .agg (sq wvL)] w fun e w' => e = .returned (.agg (sq (samplesL ls))) ∧ w.grownBy w' none := by
  have hlen := hl.1
  obtain ⟨W0, hW0⟩ : ∃ W0, (((w.alloc (.cells (sq ls) 42)).alloc (.cells (sq wvL) 35)).alloc (.cells #[.int .i64 0, .int .i64 0, .int .i64 0, .int .i64 0, .int .i64 0, .int .i64 0, .int .i64 0, .int .i64 0] 42)).alloc (.cells #[.int .i64 0, .int .i64 0, .int .i64 0, .int .i64 0, .int .i64 0, .int .i64 0, .int .i64 0, .int .i64 0] 42) = W0 := ⟨_, rfl⟩
  have G0 : w.grownBy W0 none := by rw [← hW0]; exact grown_alloc (grown_alloc (grown_alloc (World.grownBy_alloc _ _ _) _) _) _
  have b0 : W0.heap[w.heap.size]? = some (.cells (sq ls) 42 (0, 0)) := by rw [← hW0, Below.heap_alloc _ _ _ (by simp; omega), Below.heap_alloc _ _ _ (by simp; omega), Below.heap_alloc _ _ _ (by simp)]; exact heap_alloc_new w _
  have b1 : W0.heap[w.heap.size + 1]? = some (.cells (sq wvL) 35 (0, 0)) := by
    rw [← hW0, Below.heap_alloc _ _ _ (by simp), Below.heap_alloc _ _ _ (by simp)]
    have := heap_alloc_new (w.alloc (.cells (sq ls) 42)) (.cells (sq wvL) 35)
    simpa using this
  have b2 : W0.heap[w.heap.size + 2]? = some (.cells (sq zs8) 42 (0, 0)) := by
    rw [← hW0, Below.heap_alloc _ _ _ (by simp), sq_z8]
    have := heap_alloc_new ((w.alloc (.cells (sq ls) 42)).alloc (.cells (sq wvL) 35)) (.cells #[.int .i64 0, .int .i64 0, .int .i64 0, .int .i64 0, .int .i64 0, .int .i64 0, .int .i64 0, .int .i64 0] 42)
    simpa using this
  have b3 : W0.heap[w.heap.size + 3]? = some (.cells #[.int .i64 0, .int .i64 0, .int .i64 0, .int .i64 0, .int .i64 0, .int .i64 0, .int .i64 0, .int .i64 0] 42 (0, 0)) := by
    rw [← hW0]
    have := heap_alloc_new (((w.alloc (.cells (sq ls) 42)).alloc (.cells (sq wvL) 35)).alloc (.cells #[.int .i64 0, .int .i64 0, .int .i64 0, .int .i64 0, .int .i64 0, .int .i64 0, .int .i64 0, .int .i64 0] 42)) (.cells #[.int .i64 0, .int .i64 0, .int .i64 0, .int .i64 0, .int .i64 0, .int .i64 0, .int .i64 0, .int .i64 0] 42)
    simpa using this
  have s0 : W0.heap.size = w.heap.size + 4 := by rw [← hW0]; simp
  have HW := hide hW0
  have B0 := hide b0
  have B1 := hide b1
  have B2 := hide b2
  have B3 := hide b3
  have HG0 := hide G0
  have HL := hide hl
  have HS : Hid ((sq wvL).size = 64) := by unfold Hid; rw [sq_size, wv_len]
  clear hW0 b0 b1 b2 b3 G0 hl
  go_enter Tryd.func26, Tryd.ntmps26
  go_wp2_with (first | (rw [unhide HW]; clear HW; refine store_row rfl 42 _ _ rfl (w.heap.size + 3) rfl #[.int .i64 0, .int .i64 0, .int .i64 0, .int .i64 0, .int .i64 0, .int .i64 0, .int .i64 0, .int .i64 0] rfl #[.int .i64 0, .int .i64 0, .int .i64 0, .int .i64 0, .int .i64 0, .int .i64 0, .int .i64 0, .int .i64 0] 42 (unhide B3) rfl (by kernel_rfl) (by rw [← sq_z8]; exact sq_one _) ?_; intro w3 hB3 g3; rw [← sq_z8] at hB3) | (refine load_row rfl 35 _ rfl (w.heap.size + 1) rfl (sq wvL) 35 ((g3.block (w.heap.size + 1) (by omega) (by simp)).trans (unhide B1)) _ Tryd.underlying35 rfl (by rw [unhide HS]; kernel_rfl) ?_))
  have s3 := g3.size
  have HR3 := hide ((g3.block (w.heap.size + 2) (by omega) (by simp)).trans (unhide B2))
  have HI3 := hide ((g3.block w.heap.size (by omega) (by simp)).trans (unhide B0))
  have HG3 : Hid (w.grownBy w3 none) := grown_new (unhide HG0) g3 (fun g e => by simp at e; omega)
  have HB3 := hide hB3
  clear hB3 g3
  go_loopw [10] (fun i wr => ∃ k : Nat, k ≤ 64 ∧ i = .int .i64 k ∧ Hid (wr.heap[w.heap.size + 3]? = some (.cells (sq (samplesTo ls k)) 42 (0, 0))) ∧ Hid (w3.grownBy wr (some (w.heap.size + 3)))) (fun i _ => 64 - (intOf i).toNat)
  case atStart => exact ⟨0, Nat.zero_le _, rfl, by unfold Hid; rw [samplesTo_zero]; exact unhide HB3, World.grownBy.refl _ _⟩
  case round =>
    obtain ⟨k, hk, rfl, hM, hgk⟩ := hrel
    by_cases hlt : k < 64
    · obtain ⟨q, hq⟩ : ∃ q, k / 8 = q := ⟨_, rfl⟩
      obtain ⟨r, hr⟩ : ∃ r, k % 8 = r := ⟨_, rfl⟩
      have hq8 : q < 8 := by omega
      have hr8 : r < 8 := by omega
      have hqI : (k : Int) / 8 = (q : Int) := by omega
      have hrI : (k : Int) % 8 = (r : Int) := by omega
      have hq8I : (q : Int) < 8 := by omega
      have hr8I : (r : Int) < 8 := by omega
      have hat := fun w => idx wv_len (k : Int) (by omega) (by omega) w
      simp only [Int.toNat_natCast] at hat
      have hp := prod_in (unhide HL) (x := q) (k := k) (by omega) hlt
      have hsum := sum_in (f := samplesF ls r) (n := q) (M := 2048000000000) (by omega) (by omega) (fun i hi => prod_in (unhide HL) (by omega) (by omega))
      have c0 := sq_cell (((unhide hgk).block w.heap.size (by omega) (by simp)).trans (unhide HI3)) q (by omega)
      have c3 := sq_cell (unhide hM) r (by rw [samplesTo, made8_len]; omega)
      have f3 := sq_frozen (unhide hM) r
      have hold : (samplesTo ls k).getD r 0 = sumTo (samplesF ls r) q := by rw [← hq, ← hr]; exact samples_at ls k hlt
      rw [hold] at c3
      have HSET : Hid (∀ (W : World) (s : Int), wr.grownBy W none → s = sumTo (samplesF ls r) q + ls.getD q 0 * wv k → (W.setCell ⟨w.heap.size + 3, r, none⟩ (.int .i64 s)).heap[w.heap.size + 3]? = some (.cells (sq (samplesTo ls (k + 1))) 42 (0, 0)) ∧ w3.grownBy (W.setCell ⟨w.heap.size + 3, r, none⟩ (.int .i64 s)) (some (w.heap.size + 3))) := by
        intro W s hg hs
        have hM2 := (hg.block (w.heap.size + 3) (Array.getElem?_eq_some_iff.1 (unhide hM)).1 (by simp)).trans (unhide hM)
        refine ⟨?_, grown_trans (grown_trans (unhide hgk) (grown_any hg)) (grown_set W _ _ _)⟩
        rw [heap_setCell_same W (w.heap.size + 3) _ _ _ _ hM2]
        have h := samples_set ls k hlt s (by rw [hq, hr]; exact hs)
        rw [hr] at h
        rw [h]
      have hkv : wvL.getD k 0 = wv k := rfl
      rw [hkv] at hat
      clear hold hq hr hkv hM
      generalize sumTo (samplesF ls r) q = S at *
      generalize ls.getD q 0 = L at *
      generalize wv k = V at *
      have ewq := i64_in (q : Int) (by omega)
      have hrT : (k : Int).tmod 8 = (r : Int) := by rw [Int.tmod_eq_emod_of_nonneg (by omega)]; exact hrI
      have ewr := i64_in (r : Int) (by omega)
      have e1 := i64_in (L * V) (by omega)
      have e2 := i64_in (S + L * V) (by omega)
      go_wp2
      refine wp_region_last 20 _ (by kernel_rfl) rfl rfl (by kernel_rfl) ?_
      dsimp only [List.dropLast]
      repeat (go_big_quiet_step (fail))
      refine wpQuiet_nil ?_
      intro nq
      have HSN := hide (unhide HSET (wr.drewN nq) (S + L * V) (grown_drewN (World.grownBy.refl _ _) nq) rfl)
      clear hat hp hsum HSET
      go_wp2
      go_roundw
      case rel => exact ⟨k + 1, by omega, by go_num, (unhide HSN).1, (unhide HSN).2⟩
      case measure => simp [intOf]; omega
    · obtain rfl : k = 64 := by omega
      have hM := unhide hM
      rw [samplesTo_all] at hM
      have HM := hide hM
      have HBR := hide (((unhide hgk).block (w.heap.size + 2) (by omega) (by simp)).trans (unhide HR3))
      have HMS : Hid ((sq (samplesL ls)).size = 8) := by unfold Hid; rw [sq_size, samplesL, made8_len]
      have HGF : Hid (w.grownBy wr none) := grown_new (unhide HG3) (unhide hgk) (fun g e => by simp at e; omega)
      clear hM hgk
      go_wp2_with (first | (refine load_row rfl 42 _ rfl (w.heap.size + 3) rfl (sq (samplesL ls)) 42 (unhide HM) _ Tryd.underlying42 rfl (by rw [unhide HMS]; kernel_rfl) ?_) | (refine store_row rfl 42 _ _ rfl (w.heap.size + 2) rfl (sq (samplesL ls)) rfl (sq zs8) 42 (unhide HBR) (by rw [unhide HMS, sq_size, zs8_len]) (by rw [unhide HMS]; kernel_rfl) (sq_one _) ?_; intro w6 hB6 g6))
      refine bodyPost_ret (v := .agg (sq (samplesL ls))) ?_ rfl ⟨rfl, ?_⟩
      · rw [results_c1 rfl]
        exact run_loadVar_row w6 _ 42 42 _ (0, 0) _ hB6 Tryd.underlying42 rfl (by rw [unhide HMS]; kernel_rfl)
      · exact grown_new (unhide HGF) g6 (fun g e => by simp at e; omega)

end Go.Proofs.YtoeehfjbnbbijabDoor
