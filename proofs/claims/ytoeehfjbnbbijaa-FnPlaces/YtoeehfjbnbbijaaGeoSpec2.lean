/-
  Geometry in the specification: units, sizes and blocks.
-/
import Derived.Test.YtoeehfjbnbbijaaGeoSpec
import Derived.Test.YtoeehfjbnbbijaaGeoImpl4
namespace Go.Proofs.Ytoeehfjbnbbijaa
open Go.RowKit

set_option maxHeartbeats 1600000 in
theorem specUnits (p wd ht rs : Int) (ao : Option Addr) (n cap : Nat) (C : Nat → Nat → Int) (w : World) (hr : RdC w ao n C) (mh mv : Int) (hg : Geo wd ht n C mh mv) (u v : Int) (HU : Hid (upI wd (8 * mh) = u)) (HV : Hid (upI ht (8 * mv) = v)) :
    Calls Try.prog 81 #[.agg #[.int .i64 p, .int .i64 wd, .int .i64 ht, .int .i64 rs, .slice ao n cap]] w fun e w' => e = .returned (.tuple #[.int .i64 u, .int .i64 v]) ∧ w.grownBy w' none := by
  have G0 : Hid (w.grownBy (w.alloc (.cells #[.int .i64 p, .int .i64 wd, .int .i64 ht, .int .i64 rs, .slice ao n cap] 40)) none) := grown_alloc (World.grownBy.refl _ _) _
  have HB := hide (heap_alloc_new w (.cells #[.int .i64 p, .int .i64 wd, .int .i64 ht, .int .i64 rs, .slice ao n cap] 40))
  have hgs : w.heap.size < (w.alloc (.cells #[.int .i64 p, .int .i64 wd, .int .i64 ht, .int .i64 rs, .slice ao n cap] 40)).heap.size := by simp
  have HR := hide (hr.grown (unhide G0))
  clear hr
  have hn4 := hg.n4
  have hmh := hg.hb
  have hmv := hg.vb
  have hwd := hg.wd
  have hht := hg.ht
  have H1 := hide hg.h1
  have H2 := hide hg.v1
  have hw1 := i64_in (8 * mh) (by omega)
  have hw2 := i64_in (8 * mv) (by omega)
  clear hg
  go_enter Try.func81, Try.ntmps81
  go_wp2_with fail
  refine (specMost p wd ht rs ao n cap C _ (unhide HR) (by omega) mh mv (unhide H1) (unhide H2)).mono ?_
  generalize (w.alloc (.cells #[.int .i64 p, .int .i64 wd, .int .i64 ht, .int .i64 rs, .slice ao n cap] 40)) = wx at *
  rintro e w1 ⟨rfl, g1⟩
  obtain ⟨_, cf1, cf2, _, _⟩ := frameCells' ((g1.block w.heap.size hgs (by simp)).trans (unhide HB))
  go_wp2
  go_region_held3 (fun w' => w'.cell? ⟨w.heap.size, 1, none⟩ = some (.int .i64 wd) ∧ w'.cell? ⟨w.heap.size, 2, none⟩ = some (.int .i64 ht)) (exact ⟨cf1, cf2⟩) (first | (go_at_call_of 80 (Value.int .i64 wd); refine (specUp _ _ u (by omega) (by omega) HU _).mono ?_; rintro e w2 ⟨rfl, rfl⟩) | (go_at_call_of 80 (Value.int .i64 ht); refine (specUp _ _ v (by omega) (by omega) HV _).mono ?_; rintro e w2 ⟨rfl, rfl⟩))
  all_goals
    go_wp2
    refine bodyPost_ret (v := .tuple #[.int .i64 u, .int .i64 v]) (by simp [results, Try.results81, go_sem]) rfl ⟨rfl, grown_drew (grown_trans (unhide G0) g1)⟩

set_option maxHeartbeats 1600000 in
theorem specSize (p wd ht rs : Int) (ao : Option Addr) (n cap : Nat) (C : Nat → Nat → Int) (w : World) (hr : RdC w ao n C) (mh mv : Int) (hg : Geo wd ht n C mh mv) (c : Nat) (hc : c < n) (u v : Int) (HU : Hid (upI (wd * C c 1) mh = u)) (HV : Hid (upI (ht * C c 2) mv = v)) :
    Calls Try.prog 79 #[.agg #[.int .i64 p, .int .i64 wd, .int .i64 ht, .int .i64 rs, .slice ao n cap], .int .i64 c] w fun e w' => e = .returned (.tuple #[.int .i64 u, .int .i64 v]) ∧ w.grownBy w' none := by
  have G0 : Hid (w.grownBy (w.alloc (.cells #[.int .i64 p, .int .i64 wd, .int .i64 ht, .int .i64 rs, .slice ao n cap] 40)) none) := grown_alloc (World.grownBy.refl _ _) _
  have HB := hide (heap_alloc_new w (.cells #[.int .i64 p, .int .i64 wd, .int .i64 ht, .int .i64 rs, .slice ao n cap] 40))
  have hgs : w.heap.size < (w.alloc (.cells #[.int .i64 p, .int .i64 wd, .int .i64 ht, .int .i64 rs, .slice ao n cap] 40)).heap.size := by simp
  have HR := hide (hr.grown (unhide G0))
  clear hr
  have hn4 := hg.n4
  have hmh := hg.hb
  have hmv := hg.vb
  have hwd := hg.wd
  have hht := hg.ht
  have H1 := hide hg.h1
  have H2 := hide hg.v1
  have P1 := mul_share (a := wd) ⟨hwd.1, by omega⟩ (hg.ch c hc)
  have P2 := mul_share (a := ht) ⟨hht.1, by omega⟩ (hg.cv c hc)
  have hw1 := i64_in (wd * C c 1) (by omega)
  have hw2 := i64_in (ht * C c 2) (by omega)
  have hc0 : (0 : Int) ≤ (c : Int) := by omega
  have hc1 : (c : Int) < (n : Int) := by omega
  clear hg
  go_enter Try.func79, Try.ntmps79
  go_wp2_with fail
  refine (specMost p wd ht rs ao n cap C _ (unhide HR) (by omega) mh mv (unhide H1) (unhide H2)).mono ?_
  generalize (w.alloc (.cells #[.int .i64 p, .int .i64 wd, .int .i64 ht, .int .i64 rs, .slice ao n cap] 40)) = wx at *
  rintro e w1 ⟨rfl, g1⟩
  obtain ⟨_, cf1, cf2, _, cf4⟩ := frameCells' ((g1.block w.heap.size hgs (by simp)).trans (unhide HB))
  obtain ⟨bb, off, rfl, hcc⟩ := ((unhide HR).grown g1) c hc
  have x1 := hcc 1 (by omega)
  have x2 := hcc 2 (by omega)
  clear hcc
  go_wp2
  go_region_held3 (fun w' => w'.cell? ⟨w.heap.size, 1, none⟩ = some (.int .i64 wd) ∧ w'.cell? ⟨w.heap.size, 2, none⟩ = some (.int .i64 ht) ∧ w'.cell? ⟨w.heap.size, 4, none⟩ = some (.slice (some ⟨bb, off, none⟩) n cap) ∧ w'.cell? ⟨bb, off + c * 4 + 1, none⟩ = some (.int .i64 (C c 1)) ∧ w'.cell? ⟨bb, off + c * 4 + 2, none⟩ = some (.int .i64 (C c 2))) (exact ⟨cf1, cf2, cf4, x1, x2⟩) (first | (go_at_call_of 80 (Value.int .i64 (wd * C c 1)); refine (specUp _ _ u (by omega) (by omega) HU _).mono ?_; rintro e w2 ⟨rfl, rfl⟩) | (go_at_call_of 80 (Value.int .i64 (ht * C c 2)); refine (specUp _ _ v (by omega) (by omega) HV _).mono ?_; rintro e w2 ⟨rfl, rfl⟩))
  all_goals
    go_wp2
    refine bodyPost_ret (v := .tuple #[.int .i64 u, .int .i64 v]) (by simp [results, Try.results79, go_sem]) rfl ⟨rfl, grown_drew (grown_trans (unhide G0) g1)⟩

set_option maxHeartbeats 1600000 in
theorem specBlocks (p wd ht rs : Int) (ao : Option Addr) (n cap : Nat) (C : Nat → Nat → Int) (w : World) (hr : RdC w ao n C) (mh mv : Int) (hg : Geo wd ht n C mh mv) (c : Nat) (hc : c < n) (a b : Int) (HA : Hid (upI wd (8 * mh) = a)) (HB' : Hid (upI ht (8 * mv) = b)) :
    Calls Try.prog 63 #[.agg #[.int .i64 p, .int .i64 wd, .int .i64 ht, .int .i64 rs, .slice ao n cap], .int .i64 c] w fun e w' => e = .returned (.tuple #[.int .i64 (a * C c 1), .int .i64 (b * C c 2)]) ∧ w.grownBy w' none := by
  have G0 : Hid (w.grownBy (w.alloc (.cells #[.int .i64 p, .int .i64 wd, .int .i64 ht, .int .i64 rs, .slice ao n cap] 40)) none) := grown_alloc (World.grownBy.refl _ _) _
  have HB := hide (heap_alloc_new w (.cells #[.int .i64 p, .int .i64 wd, .int .i64 ht, .int .i64 rs, .slice ao n cap] 40))
  have hgs : w.heap.size < (w.alloc (.cells #[.int .i64 p, .int .i64 wd, .int .i64 ht, .int .i64 rs, .slice ao n cap] 40)).heap.size := by simp
  have HR := hide (hr.grown (unhide G0))
  clear hr
  have hn4 := hg.n4
  have HG := hide hg
  have ha : 1 ≤ a ∧ a ≤ 256 := by
    have := upI_pos (d := 8 * mh) hg.wd.1 (by have := hg.hb; omega)
    have := hg.wd
    rw [unhide HA] at *; omega
  have hb : 1 ≤ b ∧ b ≤ 256 := by
    have := upI_pos (d := 8 * mv) hg.ht.1 (by have := hg.vb; omega)
    have := hg.ht
    rw [unhide HB'] at *; omega
  have P1 := mul_share (a := a) ⟨ha.1, by omega⟩ (hg.ch c hc)
  have P2 := mul_share (a := b) ⟨hb.1, by omega⟩ (hg.cv c hc)
  have hw1 := i64_in (a * C c 1) (by omega)
  have hw2 := i64_in (b * C c 2) (by omega)
  have hc0 : (0 : Int) ≤ (c : Int) := by omega
  have hc1 : (c : Int) < (n : Int) := by omega
  clear hg
  go_enter Try.func63, Try.ntmps63
  go_wp2_with fail
  refine (specUnits p wd ht rs ao n cap C _ (unhide HR) mh mv (unhide HG) a b HA HB').mono ?_
  generalize (w.alloc (.cells #[.int .i64 p, .int .i64 wd, .int .i64 ht, .int .i64 rs, .slice ao n cap] 40)) = wx at *
  rintro e w1 ⟨rfl, g1⟩
  obtain ⟨_, _, _, _, cf4⟩ := frameCells' ((g1.block w.heap.size hgs (by simp)).trans (unhide HB))
  obtain ⟨bb, off, rfl, hcc⟩ := ((unhide HR).grown g1) c hc
  have x1 := hcc 1 (by omega)
  have x2 := hcc 2 (by omega)
  clear hcc
  go_wp2
  go_region_held3 (fun w' => w'.cell? ⟨w.heap.size, 4, none⟩ = some (.slice (some ⟨bb, off, none⟩) n cap) ∧ w'.cell? ⟨bb, off + c * 4 + 1, none⟩ = some (.int .i64 (C c 1)) ∧ w'.cell? ⟨bb, off + c * 4 + 2, none⟩ = some (.int .i64 (C c 2))) (exact ⟨cf4, x1, x2⟩) (fail)
  all_goals
    go_wp2
    refine bodyPost_ret (v := .tuple #[.int .i64 (a * C c 1), .int .i64 (b * C c 2)]) (by simp [results, Try.results63, go_sem]) rfl ⟨rfl, grown_drew (grown_trans (unhide G0) g1)⟩

theorem specComp (p wd ht rs : Int) (ao : Option Addr) (n cap : Nat) (C : Nat → Nat → Int) (w : World) (hr : RdC w ao n C) (hn : n ≤ 4194304) (b : Bool) (HFB : Hid (frameB p wd ht rs n C = b)) (c : Int) (t : Bool) (HT : Hid (decide (0 ≤ c ∧ c ≤ (n : Int) - 1) = t)) :
    Calls Try.prog 62 #[.agg #[.int .i64 p, .int .i64 wd, .int .i64 ht, .int .i64 rs, .slice ao n cap], .int .i64 c] w fun e w' => e = .returned (.bool (b && t)) ∧ w.grownBy w' none := by
  have G0 : Hid (w.grownBy (w.alloc (.cells #[.int .i64 p, .int .i64 wd, .int .i64 ht, .int .i64 rs, .slice ao n cap] 40)) none) := grown_alloc (World.grownBy.refl _ _) _
  have HB := hide (heap_alloc_new w (.cells #[.int .i64 p, .int .i64 wd, .int .i64 ht, .int .i64 rs, .slice ao n cap] 40))
  have hgs : w.heap.size < (w.alloc (.cells #[.int .i64 p, .int .i64 wd, .int .i64 ht, .int .i64 rs, .slice ao n cap] 40)).heap.size := by simp
  have HR := hide (hr.grown (unhide G0))
  clear hr
  have hw := i64_in ((n : Int) - 1) (by omega)
  go_enter Try.func62, Try.ntmps62
  go_wp2_with fail
  refine (specFrameOk p wd ht rs ao n cap C _ (unhide HR) b HFB).mono ?_
  generalize (w.alloc (.cells #[.int .i64 p, .int .i64 wd, .int .i64 ht, .int .i64 rs, .slice ao n cap] 40)) = wx at *
  rintro e w1 ⟨rfl, g1⟩
  have cf := frameCells' ((g1.block w.heap.size hgs (by simp)).trans (unhide HB))
  cases b
  · go_wp2
    go_ret
    exact ⟨rfl, grown_trans (unhide G0) g1⟩
  · go_wp2_with fail
    refine (between c 0 ((n : Int) - 1) t HT _).mono ?_
    rintro e w2 ⟨rfl, rfl⟩
    go_wp2
    go_ret
    exact ⟨rfl, grown_trans (unhide G0) g1⟩

set_option maxHeartbeats 1600000 in
theorem specBlocksOf (p wd ht rs : Int) (ao : Option Addr) (n cap : Nat) (C : Nat → Nat → Int) (w : World) (hr : RdC w ao n C) (hn : n ≤ 4194304) (b : Bool) (HFB : Hid (frameB p wd ht rs n C = b)) (c x y : Int) (HS : Hid (blocksG b wd ht n C c = (x, y))) :
    Calls Try.prog 34 #[.agg #[.int .i64 p, .int .i64 wd, .int .i64 ht, .int .i64 rs, .slice ao n cap], .int .i64 c] w fun e w' => e = .returned (.tuple #[.int .i64 x, .int .i64 y]) ∧ w.grownBy w' none := by
  have G0 : Hid (w.grownBy (w.alloc (.cells #[.int .i64 p, .int .i64 wd, .int .i64 ht, .int .i64 rs, .slice ao n cap] 40)) none) := grown_alloc (World.grownBy.refl _ _) _
  have HB := hide (heap_alloc_new w (.cells #[.int .i64 p, .int .i64 wd, .int .i64 ht, .int .i64 rs, .slice ao n cap] 40))
  have hgs : w.heap.size < (w.alloc (.cells #[.int .i64 p, .int .i64 wd, .int .i64 ht, .int .i64 rs, .slice ao n cap] 40)).heap.size := by simp
  have HR := hide (hr.grown (unhide G0))
  clear hr
  obtain ⟨t, HT⟩ : ∃ t, Hid (decide (0 ≤ c ∧ c ≤ (n : Int) - 1) = t) := ⟨_, rfl⟩
  obtain ⟨bt, HBT⟩ : ∃ bt, Hid ((b && t) = bt) := ⟨_, rfl⟩
  go_enter Try.func34, Try.ntmps34
  go_wp2_with fail
  refine (specComp p wd ht rs ao n cap C _ (unhide HR) hn b HFB c t HT).mono ?_
  generalize (w.alloc (.cells #[.int .i64 p, .int .i64 wd, .int .i64 ht, .int .i64 rs, .slice ao n cap] 40)) = wx at *
  rintro e w1 ⟨rfl, g1⟩
  have cf := frameCells' ((g1.block w.heap.size hgs (by simp)).trans (unhide HB))
  rw [unhide HBT]
  cases bt
  · have hxy : x = 0 ∧ y = 0 := by
      have e1 := unhide HS
      rw [blocksG, unhide HT, unhide HBT] at e1
      simp at e1
      exact ⟨e1.1.symm, e1.2.symm⟩
    obtain ⟨rfl, rfl⟩ := hxy
    go_wp2
    refine bodyPost_ret (v := .tuple #[.int .i64 0, .int .i64 0]) (by simp [results, Try.results34, go_sem]) rfl ⟨rfl, grown_trans (unhide G0) g1⟩
  · obtain ⟨rfl, rfl⟩ : b = true ∧ t = true := by have := unhide HBT; simpa using this
    have hcc := of_decide_eq_true (unhide HT)
    obtain ⟨k, rfl⟩ := Int.eq_ofNat_of_zero_le hcc.1
    have hk : k < n := by omega
    have HE : Hid ((upI wd (8 * mostA 1 C 1 n) * C k 1, upI ht (8 * mostA 1 C 2 n) * C k 2) = (x, y)) := by
      have e1 := unhide HS
      rw [blocksG, unhide HT] at e1
      unfold Hid
      simpa using e1
    obtain ⟨E1, E2⟩ := Prod.mk.inj (unhide HE)
    have hG := geo_of (unhide HFB)
    clear HT hcc HBT
    go_wp2_with fail
    refine (specBlocks p wd ht rs ao n cap C w1 ((unhide HR).grown g1) _ _ hG k hk _ _ rfl rfl).mono ?_
    rw [E1, E2]
    rintro e w2 ⟨rfl, g2⟩
    go_wp2
    refine bodyPost_ret (v := .tuple #[.int .i64 x, .int .i64 y]) (by simp [results, Try.results34, go_sem]) rfl ⟨rfl, grown_trans (unhide G0) (grown_trans g1 g2)⟩

end Go.Proofs.Ytoeehfjbnbbijaa
