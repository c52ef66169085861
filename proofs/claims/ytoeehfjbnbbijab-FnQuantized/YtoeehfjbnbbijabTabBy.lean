/-
  What a table leaves of a block, in the program.
-/
import Derived.Test.YtoeehfjbnbbijabTabSpec
namespace Go.Proofs.Ytoeehfjbnbbijab
open Go.RowKit Go.Shelf

def divI (n d : Int) : Int := (2 * n + d) / (2 * d)
def quantI (n s : Int) : Int := if n < 0 then -divI (-n) s else divI n s
def dequantI (n s : Int) : Int := min (max (n * s) (-32767)) 32767
theorem divI_bounds {n d : Int} (hn : 0 ≤ n ∧ n ≤ 200000) (hd : 1 ≤ d ∧ d ≤ 2000) : 0 ≤ divI n d ∧ divI n d ≤ 500000 := by
  unfold divI
  refine ⟨Int.ediv_nonneg (by omega) (by omega), ?_⟩
  have := Int.ediv_le_self (2 * d) (show 0 ≤ 2 * n + d by omega)
  omega

theorem divRound (n d u : Int) (hn : 0 ≤ n ∧ n ≤ 200000) (hd : 1 ≤ d ∧ d ≤ 2000) (hu : Hid (divI n d = u)) (w : World) :
    Calls Try.prog 47 #[.int .i64 n, .int .i64 d] w fun e w' => e = .returned (.int .i64 u) ∧ w = w' := by
  have hd0 : (2 * d == 0) = false := by simp; omega
  have hm1 : (2 * d == -1) = false := by simp; omega
  have he : Hid ((2 * n + d) / (2 * d) = u) := unhide hu
  go_enter Try.func47, Try.ntmps47
  go_wp2
  go_ret
  refine ⟨ret_int ?_, rfl⟩
  first | exact unhide he | (rw [Int.tdiv_eq_ediv_of_nonneg (by omega)]; exact unhide he) | (simp [unhide he])

theorem quantized (n s u : Int) (hn : -32767 ≤ n ∧ n ≤ 32767) (hs : 1 ≤ s ∧ s ≤ 1023) (hu : Hid (quantI n s = u)) (w : World) :
    Calls Try.prog 31 #[.int .i64 n, .int .i64 s] w fun e w' => e = .returned (.int .i64 u) ∧ w = w' := by
  by_cases h : n < 0
  · obtain ⟨v, hv⟩ : ∃ v, Hid (divI (-n) s = v) := ⟨_, rfl⟩
    have hb := divI_bounds (n := -n) (d := s) (by omega) (by omega)
    rw [unhide hv] at hb
    have e : u = -v := by rw [← unhide hu, quantI, if_pos h, unhide hv]
    subst e
    clear hu
    go_enter Try.func31, Try.ntmps31
    go_wp2_with fail
    refine (divRound (-n) s v (by omega) (by omega) hv w).mono ?_
    rintro e w1 ⟨rfl, rfl⟩
    go_wp2
    go_ret
    exact ⟨rfl, rfl⟩
  · have e : divI n s = u := by rw [← unhide hu, quantI, if_neg h]
    have HE := hide e
    clear hu e
    go_enter Try.func31, Try.ntmps31
    go_wp2_with fail
    refine (divRound n s u (by omega) (by omega) HE w).mono ?_
    rintro e w1 ⟨rfl, rfl⟩
    go_wp2
    go_ret
    exact ⟨rfl, rfl⟩

theorem mul_bounds {n s : Int} (hn : -32767 ≤ n ∧ n ≤ 32767) (hs : 1 ≤ s ∧ s ≤ 1023) : -33520641 ≤ n * s ∧ n * s ≤ 33520641 := by
  constructor
  · have h1 : -32767 * s ≤ n * s := Int.mul_le_mul_of_nonneg_right hn.1 (by omega)
    omega
  · have h1 : n * s ≤ 32767 * s := Int.mul_le_mul_of_nonneg_right hn.2 (by omega)
    omega

theorem dequantized (n s u : Int) (hn : -32767 ≤ n ∧ n ≤ 32767) (hs : 1 ≤ s ∧ s ≤ 1023) (hu : Hid (dequantI n s = u)) (w : World) :
    Calls Try.prog 33 #[.int .i64 n, .int .i64 s] w fun e w' => e = .returned (.int .i64 u) ∧ w = w' := by
  have hb := mul_bounds hn hs
  have hw := i64_in (n * s) (by omega)
  have HU : Hid (min (max (n * s) (-32767)) 32767 = u) := unhide hu
  clear hu
  go_enter Try.func33, Try.ntmps33
  go_wp2_with fail
  refine (nearestCoef (n * s) w).mono ?_
  rintro e w1 ⟨rfl, rfl⟩
  go_wp2
  go_ret
  exact ⟨ret_int (unhide HU), rfl⟩

set_option maxRecDepth 20000 in
set_option maxHeartbeats 800000 in
theorem byT (zs xs : List Int) (hz : zs.length = 64) (hx : xs.length = 64) (f : Nat → Int) (g : Nat) (lb : Array Value) (eg : ∀ args w, (callFunc g args).run Try.prog w = .ok (.enter g args) w) (w : World)
    (HC : Hid (∀ k, k < 64 → ∀ W, w.grownBy W none → Calls Try.prog g (#[.int .i64 (zs.getD k 0), .int .i64 (xs.getD k 0)] ++ lb) W fun e W' => e = .returned (.int .i64 (f k)) ∧ W.grownBy W' none)) :
    Calls Try.prog 46 #[.agg (sq zs), .agg (sq xs), .func (.func g) #[] lb] w fun e w' => e = .returned (.agg (sq (made f))) ∧ w.grownBy w' none := by
  obtain ⟨W0, hW0⟩ : ∃ W0, (((w.alloc (.cells (sq zs) 39)).alloc (.cells (sq xs) 39)).alloc (.cells #[.int .i64 0, .int .i64 0, .int .i64 0, .int .i64 0, .int .i64 0, .int .i64 0, .int .i64 0, .int .i64 0, .int .i64 0, .int .i64 0, .int .i64 0, .int .i64 0, .int .i64 0, .int .i64 0, .int .i64 0, .int .i64 0, .int .i64 0, .int .i64 0, .int .i64 0, .int .i64 0, .int .i64 0, .int .i64 0, .int .i64 0, .int .i64 0, .int .i64 0, .int .i64 0, .int .i64 0, .int .i64 0, .int .i64 0, .int .i64 0, .int .i64 0, .int .i64 0, .int .i64 0, .int .i64 0, .int .i64 0, .int .i64 0, .int .i64 0, .int .i64 0, .int .i64 0, .int .i64 0, .int .i64 0, .int .i64 0, .int .i64 0, .int .i64 0, .int .i64 0, .int .i64 0, .int .i64 0, .int .i64 0, .int .i64 0, .int .i64 0, .int .i64 0, .int .i64 0, .int .i64 0, .int .i64 0, .int .i64 0, .int .i64 0, .int .i64 0, .int .i64 0, .int .i64 0, .int .i64 0, .int .i64 0, .int .i64 0, .int .i64 0, .int .i64 0] 39)) = W0 := ⟨_, rfl⟩
  have b0 : W0.heap[w.heap.size]? = some (.cells (sq zs) 39 (0, 0)) := by
    rw [← hW0, Below.heap_alloc _ _ _ (by simp; omega), Below.heap_alloc _ _ _ (by simp)]
    exact heap_alloc_new w _
  have b1 : W0.heap[w.heap.size + 1]? = some (.cells (sq xs) 39 (0, 0)) := by
    rw [← hW0, Below.heap_alloc _ _ _ (by simp)]
    have := heap_alloc_new (w.alloc (.cells (sq zs) 39)) (.cells (sq xs) 39)
    simpa using this
  have b2 : W0.heap[w.heap.size + 2]? = some (.cells (sq zs64) 39 (0, 0)) := by
    rw [← hW0, sq_z64]
    have := heap_alloc_new ((w.alloc (.cells (sq zs) 39)).alloc (.cells (sq xs) 39)) (.cells #[.int .i64 0, .int .i64 0, .int .i64 0, .int .i64 0, .int .i64 0, .int .i64 0, .int .i64 0, .int .i64 0, .int .i64 0, .int .i64 0, .int .i64 0, .int .i64 0, .int .i64 0, .int .i64 0, .int .i64 0, .int .i64 0, .int .i64 0, .int .i64 0, .int .i64 0, .int .i64 0, .int .i64 0, .int .i64 0, .int .i64 0, .int .i64 0, .int .i64 0, .int .i64 0, .int .i64 0, .int .i64 0, .int .i64 0, .int .i64 0, .int .i64 0, .int .i64 0, .int .i64 0, .int .i64 0, .int .i64 0, .int .i64 0, .int .i64 0, .int .i64 0, .int .i64 0, .int .i64 0, .int .i64 0, .int .i64 0, .int .i64 0, .int .i64 0, .int .i64 0, .int .i64 0, .int .i64 0, .int .i64 0, .int .i64 0, .int .i64 0, .int .i64 0, .int .i64 0, .int .i64 0, .int .i64 0, .int .i64 0, .int .i64 0, .int .i64 0, .int .i64 0, .int .i64 0, .int .i64 0, .int .i64 0, .int .i64 0, .int .i64 0, .int .i64 0] 39)
    simpa using this
  have hsz : W0.heap.size = w.heap.size + 3 := by rw [← hW0]; simp
  have G0 : Hid (w.grownBy W0 none) := by rw [← hW0]; exact grown_alloc (grown_alloc (grown_alloc (World.grownBy.refl _ _) _) _) _
  have HW := hide hW0
  have B0 := hide b0
  have B1 := hide b1
  have B2 := hide b2
  have HS : Hid ((sq zs).size = 64) := by unfold Hid; rw [sq_size, hz]
  have HZ := hide hz
  have HX := hide hx
  clear hW0 b0 b1 b2 hz hx
  go_enter Try.func46, Try.ntmps46
  go_wp2_with (rw [unhide HW]; refine load_row rfl 39 _ rfl w.heap.size rfl (sq zs) 39 (unhide B0) _ Try.underlying39 rfl (by rw [unhide HS]; kernel_rfl) ?_)
  clear HW
  go_loopw [10] (fun i wr => ∃ k : Nat, k ≤ 64 ∧ i = .int .i64 k ∧ wr.heap[w.heap.size]? = some (.cells (sq (mix f zs k)) 39 (0, 0)) ∧ W0.grownBy wr (some w.heap.size)) (fun i _ => 64 - (intOf i).toNat)
  case atStart => exact ⟨0, Nat.zero_le _, rfl, by rw [mix_zero]; exact unhide B0, World.grownBy.refl _ _⟩
  case round =>
    obtain ⟨k, hk, rfl, hM, hgk⟩ := hrel
    by_cases hlt : k < 64
    · have hat := fun w => idx (unhide HZ) (k : Int) (by omega) (by omega) w
      simp only [Int.toNat_natCast] at hat
      have hl : (mix f zs k).length = 64 := (mix_len f zs k (by have := unhide HZ; omega)).trans (unhide HZ)
      have hq := (hgk.block (w.heap.size + 1) (by omega) (by simp)).trans (unhide B1)
      have cq := sq_cell hq k (by rw [unhide HX]; omega)
      have G1 : Hid (w.grownBy wr none) := grown_new (unhide G0) hgk (fun g e => by simp at e; omega)
      clear hq
      go_wp2_with fail
      refine (unhide HC k hlt wr (unhide G1)).mono ?_
      rintro e W2 ⟨rfl, g2⟩
      have hM2 := (g2.block w.heap.size (by have := hgk.size; omega) (by simp)).trans hM
      have c2 := sq_cell hM2 k (by omega)
      have f2 := sq_frozen hM2 k
      have hM3 := heap_setCell_same W2 w.heap.size k _ _ (.int .i64 (f k)) hM2
      rw [mix_set f zs k (by have := unhide HZ; omega)] at hM3
      have hg3 := grown_trans (grown_trans hgk (grown_any g2)) (grown_set W2 w.heap.size k (.int .i64 (f k)))
      have H3 := hide hM3
      have HG3 := hide hg3
      clear hM hM2 hM3 hg3 hgk g2 hat cq
      go_wp2
      go_roundw
      case rel => exact ⟨k + 1, by omega, by go_num, unhide H3, unhide HG3⟩
      case measure => simp [intOf]; omega
    · obtain rfl : k = 64 := by omega
      rw [mix_all f zs (unhide HZ)] at hM
      have hbr := (hgk.block (w.heap.size + 2) (by omega) (by simp)).trans (unhide B2)
      have hms : (sq (made f)).size = 64 := by rw [sq_size, made_len]
      have HM := hide hM
      have HBR := hide hbr
      have HMS := hide hms
      clear hM hbr hms
      go_wp2_with (first | (refine load_row rfl 39 _ rfl w.heap.size rfl (sq (made f)) 39 (unhide HM) _ Try.underlying39 rfl (by rw [unhide HMS]; kernel_rfl) ?_) | (refine store_row rfl 39 _ _ rfl (w.heap.size + 2) rfl (sq (made f)) rfl (sq zs64) 39 (unhide HBR) (by rw [unhide HMS, sq_size, zs64_len]) (by rw [unhide HMS]; kernel_rfl) (sq_one _) ?_; intro w3 hB3 g3))
      refine bodyPost_ret (v := .agg (sq (made f))) ?_ rfl ⟨rfl, ?_⟩
      · rw [results_c1 rfl]
        exact run_loadVar_row w3 _ 39 39 _ (0, 0) _ hB3 Try.underlying39 rfl (by rw [unhide HMS]; kernel_rfl)
      · exact grown_new (grown_new (unhide G0) hgk (fun g e => by simp at e; omega)) g3 (fun g e => by simp at e; omega)

set_option maxRecDepth 20000 in
set_option maxHeartbeats 1600000 in
theorem byTable (ao bo : Option Addr) (n m cap cap' : Nat) (zs xs : List Int) (w : World) (hr : Rd .i64 w ao n zs) (hx : Rd .i64 w bo m xs) (b c : Bool) (hb : Hid (numsB (-32767) 32767 zs = b)) (hc : Hid (numsB 1 1023 xs = c))
    (f : Nat → Int) (g : Nat) (eg : ∀ args w, (callFunc g args).run Try.prog w = .ok (.enter g args) w)
    (HC : Hid (b = true → c = true → ∀ k, k < 64 → ∀ W, Calls Try.prog g #[.int .i64 (zs.getD k 0), .int .i64 (xs.getD k 0)] W fun e W' => e = .returned (.int .i64 (f k)) ∧ W.grownBy W' none)) (L : List Int) (HL : Hid ((if b && c then made f else []) = L)) :
    Calls Try.prog 30 #[.slice ao n cap, .slice bo m cap', .func (.func g) #[] #[]] w fun e w' => ∃ so sc, e = .returned (.slice so L.length sc) ∧ w'.ownsRow w.heap.size 3 1 (.slice so L.length sc) L.length (L.map (Value.int .i64)) ∧ w.grownBy w' none := by
  have HR := hide hr
  have HX := hide hx
  clear hr hx
  go_enter Try.func30, Try.ntmps30
  go_wp2_with fail
  refine (fixBlock ao n cap zs _ (unhide HR) b hb).mono ?_
  rintro e w1 ⟨⟨ys, rfl, hy, hyz⟩, g1⟩
  have HY := hide hy
  have HYZ := hide hyz
  have HG1 := hide g1
  clear hy hyz g1
  go_wp2_with (refine store_row rfl 39 _ _ rfl w1.heap.size rfl (sq ys) rfl #[.int .i64 0, .int .i64 0, .int .i64 0, .int .i64 0, .int .i64 0, .int .i64 0, .int .i64 0, .int .i64 0, .int .i64 0, .int .i64 0, .int .i64 0, .int .i64 0, .int .i64 0, .int .i64 0, .int .i64 0, .int .i64 0, .int .i64 0, .int .i64 0, .int .i64 0, .int .i64 0, .int .i64 0, .int .i64 0, .int .i64 0, .int .i64 0, .int .i64 0, .int .i64 0, .int .i64 0, .int .i64 0, .int .i64 0, .int .i64 0, .int .i64 0, .int .i64 0, .int .i64 0, .int .i64 0, .int .i64 0, .int .i64 0, .int .i64 0, .int .i64 0, .int .i64 0, .int .i64 0, .int .i64 0, .int .i64 0, .int .i64 0, .int .i64 0, .int .i64 0, .int .i64 0, .int .i64 0, .int .i64 0, .int .i64 0, .int .i64 0, .int .i64 0, .int .i64 0, .int .i64 0, .int .i64 0, .int .i64 0, .int .i64 0, .int .i64 0, .int .i64 0, .int .i64 0, .int .i64 0, .int .i64 0, .int .i64 0, .int .i64 0, .int .i64 0] 39 (heap_alloc_new _ _) (by rw [sq_size, unhide HY]; rfl) (by rw [sq_size, unhide HY]; kernel_rfl) (sq_one _) ?_; intro w2 hB2 g2; have HB2 := hide hB2; clear hB2)
  have HG2 : Hid (w.grownBy w2 none) := grown_new (grown_alloc (unhide HG1) _) g2 (fun g' e => by simp at e; have := (unhide HG1).size; omega)
  have s12 : w1.heap.size < w2.heap.size := by have := g2.size; simp at this; omega
  have HS12 := hide s12
  clear g2 s12
  refine (fixTable bo m cap' xs _ ((unhide HX).grown (unhide HG2)) c hc).mono ?_
  rintro e w3 ⟨⟨ts, rfl, ht, htx⟩, g3⟩
  have HT := hide ht
  have HTX := hide htx
  have HB3 := hide ((g3.block w1.heap.size (unhide HS12) (by simp)).trans (unhide HB2))
  have HG3 := hide (grown_trans (unhide HG2) g3)
  have HS13 : Hid (w1.heap.size < w3.heap.size) := by have := g3.size; have := unhide HS12; unfold Hid; omega
  clear ht htx g3 HB2 HG2 HS12
  by_cases hbc : (b && c) = true
  · obtain ⟨hb1, hc1⟩ := Bool.and_eq_true_iff.1 hbc
    subst hb1 hc1
    have hz := (nums_at (unhide hb)).1
    have hz2 := (nums_at (unhide hc)).1
    have e : ys = zs := unhide HYZ (by rw [← (unhide HR).1]; exact hz)
    subst e
    have e : ts = xs := unhide HTX (by rw [← (unhide HX).1]; exact hz2)
    subst e
    have e : L = made f := (unhide HL).symm
    subst e
    clear hz hz2 hbc
    go_wp2_with (first | (refine store_row rfl 39 _ _ rfl w3.heap.size rfl (sq ts) rfl #[.int .i64 0, .int .i64 0, .int .i64 0, .int .i64 0, .int .i64 0, .int .i64 0, .int .i64 0, .int .i64 0, .int .i64 0, .int .i64 0, .int .i64 0, .int .i64 0, .int .i64 0, .int .i64 0, .int .i64 0, .int .i64 0, .int .i64 0, .int .i64 0, .int .i64 0, .int .i64 0, .int .i64 0, .int .i64 0, .int .i64 0, .int .i64 0, .int .i64 0, .int .i64 0, .int .i64 0, .int .i64 0, .int .i64 0, .int .i64 0, .int .i64 0, .int .i64 0, .int .i64 0, .int .i64 0, .int .i64 0, .int .i64 0, .int .i64 0, .int .i64 0, .int .i64 0, .int .i64 0, .int .i64 0, .int .i64 0, .int .i64 0, .int .i64 0, .int .i64 0, .int .i64 0, .int .i64 0, .int .i64 0, .int .i64 0, .int .i64 0, .int .i64 0, .int .i64 0, .int .i64 0, .int .i64 0, .int .i64 0, .int .i64 0, .int .i64 0, .int .i64 0, .int .i64 0, .int .i64 0, .int .i64 0, .int .i64 0, .int .i64 0, .int .i64 0] 39 (heap_alloc_new _ _) (by rw [sq_size, unhide HT]; rfl) (by rw [sq_size, unhide HT]; kernel_rfl) (sq_one _) ?_; intro w4 hB4 g4; have HB4 := hide hB4; have HG4 := hide g4; have HBB4 := hide ((g4.block w1.heap.size (by have := unhide HS13; simp; omega) (by have := unhide HS13; simp; omega)).trans ((Below.heap_alloc _ _ _ (unhide HS13)).trans (unhide HB3))); clear hB4 g4) | (refine load_row rfl 39 _ rfl w1.heap.size rfl (sq ys) 39 (unhide HBB4) _ Try.underlying39 rfl (by rw [sq_size, unhide HY]; kernel_rfl) ?_) | (refine load_row rfl 39 _ rfl w3.heap.size rfl (sq ts) 39 (unhide HB4) _ Try.underlying39 rfl (by rw [sq_size, unhide HT]; kernel_rfl) ?_))
    have HG5 : Hid (w.grownBy w4 none) := grown_new (grown_alloc (unhide HG3) _) (unhide HG4) (fun g' e => by simp at e; have := (unhide HG3).size; omega)
    refine (byT ys ts (unhide HY) (unhide HT) f g #[] eg w4 (fun k hk W hW => unhide HC (by trivial) (by trivial) k hk W)).mono ?_
    rintro e w5 ⟨rfl, g5⟩
    go_wp2_with fail
    refine (list (made f) (made_len f) w5).mono ?_
    rintro e w6 ⟨v, rfl, ho, g6⟩
    go_wp2
    go_ret
    have G5 := grown_trans (unhide HG5) g5
    have hml := made_len f
    rw [← hml] at ho
    obtain ⟨so, sc, rfl⟩ := own_form ho
    exact ⟨_, _, rfl, own_base ho G5.size, grown_trans G5 g6⟩
  · have e : L = [] := by rw [← unhide HL, if_neg hbc]
    subst e
    clear HC HL hb hc
    cases b with
    | false =>
      go_wp2_with (refine store_row rfl 39 _ _ rfl w3.heap.size rfl (sq ts) rfl #[.int .i64 0, .int .i64 0, .int .i64 0, .int .i64 0, .int .i64 0, .int .i64 0, .int .i64 0, .int .i64 0, .int .i64 0, .int .i64 0, .int .i64 0, .int .i64 0, .int .i64 0, .int .i64 0, .int .i64 0, .int .i64 0, .int .i64 0, .int .i64 0, .int .i64 0, .int .i64 0, .int .i64 0, .int .i64 0, .int .i64 0, .int .i64 0, .int .i64 0, .int .i64 0, .int .i64 0, .int .i64 0, .int .i64 0, .int .i64 0, .int .i64 0, .int .i64 0, .int .i64 0, .int .i64 0, .int .i64 0, .int .i64 0, .int .i64 0, .int .i64 0, .int .i64 0, .int .i64 0, .int .i64 0, .int .i64 0, .int .i64 0, .int .i64 0, .int .i64 0, .int .i64 0, .int .i64 0, .int .i64 0, .int .i64 0, .int .i64 0, .int .i64 0, .int .i64 0, .int .i64 0, .int .i64 0, .int .i64 0, .int .i64 0, .int .i64 0, .int .i64 0, .int .i64 0, .int .i64 0, .int .i64 0, .int .i64 0, .int .i64 0, .int .i64 0] 39 (heap_alloc_new _ _) (by rw [sq_size, unhide HT]; rfl) (by rw [sq_size, unhide HT]; kernel_rfl) (sq_one _) ?_; intro w4 hB4 g4)
      go_ret
      exact ⟨none, 0, rfl, World.ownsRow_nil _ _ _ _, grown_new (grown_alloc (unhide HG3) _) g4 (fun g' e => by simp at e; have := (unhide HG3).size; omega)⟩
    | true =>
      cases c with
      | true => exact absurd rfl hbc
      | false =>
        go_wp2_with (refine store_row rfl 39 _ _ rfl w3.heap.size rfl (sq ts) rfl #[.int .i64 0, .int .i64 0, .int .i64 0, .int .i64 0, .int .i64 0, .int .i64 0, .int .i64 0, .int .i64 0, .int .i64 0, .int .i64 0, .int .i64 0, .int .i64 0, .int .i64 0, .int .i64 0, .int .i64 0, .int .i64 0, .int .i64 0, .int .i64 0, .int .i64 0, .int .i64 0, .int .i64 0, .int .i64 0, .int .i64 0, .int .i64 0, .int .i64 0, .int .i64 0, .int .i64 0, .int .i64 0, .int .i64 0, .int .i64 0, .int .i64 0, .int .i64 0, .int .i64 0, .int .i64 0, .int .i64 0, .int .i64 0, .int .i64 0, .int .i64 0, .int .i64 0, .int .i64 0, .int .i64 0, .int .i64 0, .int .i64 0, .int .i64 0, .int .i64 0, .int .i64 0, .int .i64 0, .int .i64 0, .int .i64 0, .int .i64 0, .int .i64 0, .int .i64 0, .int .i64 0, .int .i64 0, .int .i64 0, .int .i64 0, .int .i64 0, .int .i64 0, .int .i64 0, .int .i64 0, .int .i64 0, .int .i64 0, .int .i64 0, .int .i64 0] 39 (heap_alloc_new _ _) (by rw [sq_size, unhide HT]; rfl) (by rw [sq_size, unhide HT]; kernel_rfl) (sq_one _) ?_; intro w4 hB4 g4)
        go_ret
        exact ⟨none, 0, rfl, World.ownsRow_nil _ _ _ _, grown_new (grown_alloc (unhide HG3) _) g4 (fun g' e => by simp at e; have := (unhide HG3).size; omega)⟩

def quantL (zs xs : List Int) : List Int := made (fun k => quantI (zs.getD k 0) (xs.getD k 0))
def dequantL (zs xs : List Int) : List Int := made (fun k => dequantI (zs.getD k 0) (xs.getD k 0))

set_option maxHeartbeats 400000 in
theorem implQuantize (ao bo : Option Addr) (n m cap cap' : Nat) (zs xs : List Int) (w : World) (hr : Rd .i64 w ao n zs) (hx : Rd .i64 w bo m xs) (b c : Bool) (hb : Hid (numsB (-32767) 32767 zs = b)) (hc : Hid (numsB 1 1023 xs = c)) (L : List Int) (HL : Hid ((if b && c then quantL zs xs else []) = L)) :
    Calls Try.prog 16 #[.slice ao n cap, .slice bo m cap'] w fun e w' => ∃ so sc, e = .returned (.slice so L.length sc) ∧ w'.ownsRow w.heap.size 3 1 (.slice so L.length sc) L.length (L.map (Value.int .i64)) ∧ w.grownBy w' none := by
  have HR := hide hr
  have HX := hide hx
  clear hr hx
  go_enter Try.func16, Try.ntmps16
  go_wp2_with fail
  refine (byTable ao bo n m cap cap' zs xs w (unhide HR) (unhide HX) b c hb hc (fun k => quantI (zs.getD k 0) (xs.getD k 0)) 31 (enters_of Try.func31 (by kernel_rfl) rfl) (fun h1 h2 k hk W => ?_) L HL).mono ?_
  · refine (quantized _ _ _ ((nums_at ((unhide hb).trans h1)).2 k hk) ((nums_at ((unhide hc).trans h2)).2 k hk) rfl W).mono ?_
    rintro e w' ⟨rfl, rfl⟩
    exact ⟨rfl, World.grownBy.refl _ _⟩
  · rintro e w1 ⟨so, sc, rfl, ho, hg⟩
    go_wp2
    go_ret
    exact ⟨_, _, rfl, ho, hg⟩

set_option maxHeartbeats 400000 in
theorem implDequantize (ao bo : Option Addr) (n m cap cap' : Nat) (zs xs : List Int) (w : World) (hr : Rd .i64 w ao n zs) (hx : Rd .i64 w bo m xs) (b c : Bool) (hb : Hid (numsB (-32767) 32767 zs = b)) (hc : Hid (numsB 1 1023 xs = c)) (L : List Int) (HL : Hid ((if b && c then dequantL zs xs else []) = L)) :
    Calls Try.prog 19 #[.slice ao n cap, .slice bo m cap'] w fun e w' => ∃ so sc, e = .returned (.slice so L.length sc) ∧ w'.ownsRow w.heap.size 3 1 (.slice so L.length sc) L.length (L.map (Value.int .i64)) ∧ w.grownBy w' none := by
  have HR := hide hr
  have HX := hide hx
  clear hr hx
  go_enter Try.func19, Try.ntmps19
  go_wp2_with fail
  refine (byTable ao bo n m cap cap' zs xs w (unhide HR) (unhide HX) b c hb hc (fun k => dequantI (zs.getD k 0) (xs.getD k 0)) 33 (enters_of Try.func33 (by kernel_rfl) rfl) (fun h1 h2 k hk W => ?_) L HL).mono ?_
  · refine (dequantized _ _ _ ((nums_at ((unhide hb).trans h1)).2 k hk) ((nums_at ((unhide hc).trans h2)).2 k hk) rfl W).mono ?_
    rintro e w' ⟨rfl, rfl⟩
    exact ⟨rfl, World.grownBy.refl _ _⟩
  · rintro e w1 ⟨so, sc, rfl, ho, hg⟩
    go_wp2
    go_ret
    exact ⟨_, _, rfl, ho, hg⟩

end Go.Proofs.Ytoeehfjbnbbijab
