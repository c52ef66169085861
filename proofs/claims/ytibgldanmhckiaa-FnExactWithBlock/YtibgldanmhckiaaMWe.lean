/-
  GeoSpec2, CoefSpec, CoefOk, AppRdI, CoefAt, CoefGive.
-/
import Derived.Deep.RegionHeld3
import Derived.Deep.QuietTactic
import Derived.BigQuiet
import Derived.Test.YtibgldanmhckiaaRows
import Derived.Laws.AppendOwnNone
import Derived.Maps.AppendAt
import Derived.Deep.AppendLies
import Derived.Test.YtibgldanmhckiaaMWd

namespace Go.Proofs.Ytibgldanmhckiaa
open Go.RowKit

set_option maxHeartbeats 1600000 in
theorem specUnits (p wd ht rs : Int) (ao : Option Addr) (n cap : Nat) (C : Nat → Nat → Int) (w : World) (hr : RdC w ao n C) (mh mv : Int) (hg : Geo wd ht n C mh mv) (u v : Int) (HU : Hid (upI wd (8 * mh) = u)) (HV : Hid (upI ht (8 * mv) = v)) :
    Calls Try.prog 86 #[.agg #[.int .i64 p, .int .i64 wd, .int .i64 ht, .int .i64 rs, .slice ao n cap]] w fun e w' => e = .returned (.tuple #[.int .i64 u, .int .i64 v]) ∧ w.grownBy w' none := by
  have G0 : Hid (w.grownBy (w.alloc (.cells #[.int .i64 p, .int .i64 wd, .int .i64 ht, .int .i64 rs, .slice ao n cap] 26)) none) := grown_alloc (World.grownBy.refl _ _) _
  have HB := hide (heap_alloc_new w (.cells #[.int .i64 p, .int .i64 wd, .int .i64 ht, .int .i64 rs, .slice ao n cap] 26))
  have hgs : w.heap.size < (w.alloc (.cells #[.int .i64 p, .int .i64 wd, .int .i64 ht, .int .i64 rs, .slice ao n cap] 26)).heap.size := by simp
  have HR := hide (hr.grown (unhide G0))
  clear hr
  have hn4 := hg.n4
  have hmh := hg.hb
  have hmv := hg.vb
  have hwd := hg.wd
  have hht := hg.ht
  have H1 := hide hg.h1
  have H2 := hide hg.v1
  have hw1 := i64_in (8 * mh) (by omega)
  have hw2 := i64_in (8 * mv) (by omega)
  clear hg
  go_enter Try.func86, Try.ntmps86
  go_wp2_with fail
  refine (specMost p wd ht rs ao n cap C _ (unhide HR) (by omega) mh mv (unhide H1) (unhide H2)).mono ?_
  generalize (w.alloc (.cells #[.int .i64 p, .int .i64 wd, .int .i64 ht, .int .i64 rs, .slice ao n cap] 26)) = wx at *
  rintro e w1 ⟨rfl, g1⟩
  obtain ⟨_, cf1, cf2, _, _⟩ := frameCells' ((g1.block w.heap.size hgs (by simp)).trans (unhide HB))
  go_wp2
  go_region_held3 (fun w' => w'.cell? ⟨w.heap.size, 1, none⟩ = some (.int .i64 wd) ∧ w'.cell? ⟨w.heap.size, 2, none⟩ = some (.int .i64 ht)) (exact ⟨cf1, cf2⟩) (first | (go_at_call_of 108 (Value.int .i64 wd); refine (specUp _ _ u (by omega) (by omega) HU _).mono ?_; rintro e w2 ⟨rfl, rfl⟩) | (go_at_call_of 108 (Value.int .i64 ht); refine (specUp _ _ v (by omega) (by omega) HV _).mono ?_; rintro e w2 ⟨rfl, rfl⟩))
  all_goals
    go_wp2
    refine bodyPost_ret (v := .tuple #[.int .i64 u, .int .i64 v]) (by simp [results, Try.results86, go_sem]) rfl ⟨rfl, grown_drew (grown_trans (unhide G0) g1)⟩

set_option maxHeartbeats 1600000 in
theorem specSize (p wd ht rs : Int) (ao : Option Addr) (n cap : Nat) (C : Nat → Nat → Int) (w : World) (hr : RdC w ao n C) (mh mv : Int) (hg : Geo wd ht n C mh mv) (c : Nat) (hc : c < n) (u v : Int) (HU : Hid (upI (wd * C c 1) mh = u)) (HV : Hid (upI (ht * C c 2) mv = v)) :
    Calls Try.prog 107 #[.agg #[.int .i64 p, .int .i64 wd, .int .i64 ht, .int .i64 rs, .slice ao n cap], .int .i64 c] w fun e w' => e = .returned (.tuple #[.int .i64 u, .int .i64 v]) ∧ w.grownBy w' none := by
  have G0 : Hid (w.grownBy (w.alloc (.cells #[.int .i64 p, .int .i64 wd, .int .i64 ht, .int .i64 rs, .slice ao n cap] 26)) none) := grown_alloc (World.grownBy.refl _ _) _
  have HB := hide (heap_alloc_new w (.cells #[.int .i64 p, .int .i64 wd, .int .i64 ht, .int .i64 rs, .slice ao n cap] 26))
  have hgs : w.heap.size < (w.alloc (.cells #[.int .i64 p, .int .i64 wd, .int .i64 ht, .int .i64 rs, .slice ao n cap] 26)).heap.size := by simp
  have HR := hide (hr.grown (unhide G0))
  clear hr
  have hn4 := hg.n4
  have hmh := hg.hb
  have hmv := hg.vb
  have hwd := hg.wd
  have hht := hg.ht
  have H1 := hide hg.h1
  have H2 := hide hg.v1
  have P1 := mul_share (a := wd) ⟨hwd.1, by omega⟩ (hg.ch c hc)
  have P2 := mul_share (a := ht) ⟨hht.1, by omega⟩ (hg.cv c hc)
  have hw1 := i64_in (wd * C c 1) (by omega)
  have hw2 := i64_in (ht * C c 2) (by omega)
  have hc0 : (0 : Int) ≤ (c : Int) := by omega
  have hc1 : (c : Int) < (n : Int) := by omega
  clear hg
  go_enter Try.func107, Try.ntmps107
  go_wp2_with fail
  refine (specMost p wd ht rs ao n cap C _ (unhide HR) (by omega) mh mv (unhide H1) (unhide H2)).mono ?_
  generalize (w.alloc (.cells #[.int .i64 p, .int .i64 wd, .int .i64 ht, .int .i64 rs, .slice ao n cap] 26)) = wx at *
  rintro e w1 ⟨rfl, g1⟩
  obtain ⟨_, cf1, cf2, _, cf4⟩ := frameCells' ((g1.block w.heap.size hgs (by simp)).trans (unhide HB))
  obtain ⟨bb, off, rfl, hcc⟩ := ((unhide HR).grown g1) c hc
  have x1 := hcc 1 (by omega)
  have x2 := hcc 2 (by omega)
  clear hcc
  go_wp2
  go_region_held3 (fun w' => w'.cell? ⟨w.heap.size, 1, none⟩ = some (.int .i64 wd) ∧ w'.cell? ⟨w.heap.size, 2, none⟩ = some (.int .i64 ht) ∧ w'.cell? ⟨w.heap.size, 4, none⟩ = some (.slice (some ⟨bb, off, none⟩) n cap) ∧ w'.cell? ⟨bb, off + c * 4 + 1, none⟩ = some (.int .i64 (C c 1)) ∧ w'.cell? ⟨bb, off + c * 4 + 2, none⟩ = some (.int .i64 (C c 2))) (exact ⟨cf1, cf2, cf4, x1, x2⟩) (first | (go_at_call_of 108 (Value.int .i64 (wd * C c 1)); refine (specUp _ _ u (by omega) (by omega) HU _).mono ?_; rintro e w2 ⟨rfl, rfl⟩) | (go_at_call_of 108 (Value.int .i64 (ht * C c 2)); refine (specUp _ _ v (by omega) (by omega) HV _).mono ?_; rintro e w2 ⟨rfl, rfl⟩))
  all_goals
    go_wp2
    refine bodyPost_ret (v := .tuple #[.int .i64 u, .int .i64 v]) (by simp [results, Try.results107, go_sem]) rfl ⟨rfl, grown_drew (grown_trans (unhide G0) g1)⟩

set_option maxHeartbeats 1600000 in
theorem specBlocks (p wd ht rs : Int) (ao : Option Addr) (n cap : Nat) (C : Nat → Nat → Int) (w : World) (hr : RdC w ao n C) (mh mv : Int) (hg : Geo wd ht n C mh mv) (c : Nat) (hc : c < n) (a b : Int) (HA : Hid (upI wd (8 * mh) = a)) (HB' : Hid (upI ht (8 * mv) = b)) :
    Calls Try.prog 51 #[.agg #[.int .i64 p, .int .i64 wd, .int .i64 ht, .int .i64 rs, .slice ao n cap], .int .i64 c] w fun e w' => e = .returned (.tuple #[.int .i64 (a * C c 1), .int .i64 (b * C c 2)]) ∧ w.grownBy w' none := by
  have G0 : Hid (w.grownBy (w.alloc (.cells #[.int .i64 p, .int .i64 wd, .int .i64 ht, .int .i64 rs, .slice ao n cap] 26)) none) := grown_alloc (World.grownBy.refl _ _) _
  have HB := hide (heap_alloc_new w (.cells #[.int .i64 p, .int .i64 wd, .int .i64 ht, .int .i64 rs, .slice ao n cap] 26))
  have hgs : w.heap.size < (w.alloc (.cells #[.int .i64 p, .int .i64 wd, .int .i64 ht, .int .i64 rs, .slice ao n cap] 26)).heap.size := by simp
  have HR := hide (hr.grown (unhide G0))
  clear hr
  have hn4 := hg.n4
  have HG := hide hg
  have ha : 1 ≤ a ∧ a ≤ 256 := by
    have := upI_pos (d := 8 * mh) hg.wd.1 (by have := hg.hb; omega)
    have := hg.wd
    rw [unhide HA] at *; omega
  have hb : 1 ≤ b ∧ b ≤ 256 := by
    have := upI_pos (d := 8 * mv) hg.ht.1 (by have := hg.vb; omega)
    have := hg.ht
    rw [unhide HB'] at *; omega
  have P1 := mul_share (a := a) ⟨ha.1, by omega⟩ (hg.ch c hc)
  have P2 := mul_share (a := b) ⟨hb.1, by omega⟩ (hg.cv c hc)
  have hw1 := i64_in (a * C c 1) (by omega)
  have hw2 := i64_in (b * C c 2) (by omega)
  have hc0 : (0 : Int) ≤ (c : Int) := by omega
  have hc1 : (c : Int) < (n : Int) := by omega
  clear hg
  go_enter Try.func51, Try.ntmps51
  go_wp2_with fail
  refine (specUnits p wd ht rs ao n cap C _ (unhide HR) mh mv (unhide HG) a b HA HB').mono ?_
  generalize (w.alloc (.cells #[.int .i64 p, .int .i64 wd, .int .i64 ht, .int .i64 rs, .slice ao n cap] 26)) = wx at *
  rintro e w1 ⟨rfl, g1⟩
  obtain ⟨_, _, _, _, cf4⟩ := frameCells' ((g1.block w.heap.size hgs (by simp)).trans (unhide HB))
  obtain ⟨bb, off, rfl, hcc⟩ := ((unhide HR).grown g1) c hc
  have x1 := hcc 1 (by omega)
  have x2 := hcc 2 (by omega)
  clear hcc
  go_wp2
  go_region_held3 (fun w' => w'.cell? ⟨w.heap.size, 4, none⟩ = some (.slice (some ⟨bb, off, none⟩) n cap) ∧ w'.cell? ⟨bb, off + c * 4 + 1, none⟩ = some (.int .i64 (C c 1)) ∧ w'.cell? ⟨bb, off + c * 4 + 2, none⟩ = some (.int .i64 (C c 2))) (exact ⟨cf4, x1, x2⟩) (fail)
  all_goals
    go_wp2
    refine bodyPost_ret (v := .tuple #[.int .i64 (a * C c 1), .int .i64 (b * C c 2)]) (by simp [results, Try.results51, go_sem]) rfl ⟨rfl, grown_drew (grown_trans (unhide G0) g1)⟩

theorem specComp (p wd ht rs : Int) (ao : Option Addr) (n cap : Nat) (C : Nat → Nat → Int) (w : World) (hr : RdC w ao n C) (hn : n ≤ 4194304) (b : Bool) (HFB : Hid (frameB p wd ht rs n C = b)) (c : Int) (t : Bool) (HT : Hid (decide (0 ≤ c ∧ c ≤ (n : Int) - 1) = t)) :
    Calls Try.prog 56 #[.agg #[.int .i64 p, .int .i64 wd, .int .i64 ht, .int .i64 rs, .slice ao n cap], .int .i64 c] w fun e w' => e = .returned (.bool (b && t)) ∧ w.grownBy w' none := by
  have G0 : Hid (w.grownBy (w.alloc (.cells #[.int .i64 p, .int .i64 wd, .int .i64 ht, .int .i64 rs, .slice ao n cap] 26)) none) := grown_alloc (World.grownBy.refl _ _) _
  have HB := hide (heap_alloc_new w (.cells #[.int .i64 p, .int .i64 wd, .int .i64 ht, .int .i64 rs, .slice ao n cap] 26))
  have hgs : w.heap.size < (w.alloc (.cells #[.int .i64 p, .int .i64 wd, .int .i64 ht, .int .i64 rs, .slice ao n cap] 26)).heap.size := by simp
  have HR := hide (hr.grown (unhide G0))
  clear hr
  have hw := i64_in ((n : Int) - 1) (by omega)
  go_enter Try.func56, Try.ntmps56
  go_wp2_with fail
  refine (specFrameOk p wd ht rs ao n cap C _ (unhide HR) b HFB).mono ?_
  generalize (w.alloc (.cells #[.int .i64 p, .int .i64 wd, .int .i64 ht, .int .i64 rs, .slice ao n cap] 26)) = wx at *
  rintro e w1 ⟨rfl, g1⟩
  have cf := frameCells' ((g1.block w.heap.size hgs (by simp)).trans (unhide HB))
  cases b
  · go_wp2
    go_ret
    exact ⟨rfl, grown_trans (unhide G0) g1⟩
  · go_wp2_with fail
    refine (between c 0 ((n : Int) - 1) t HT _).mono ?_
    rintro e w2 ⟨rfl, rfl⟩
    go_wp2
    go_ret
    exact ⟨rfl, grown_trans (unhide G0) g1⟩

set_option maxHeartbeats 1600000 in
theorem specBlocksOf (p wd ht rs : Int) (ao : Option Addr) (n cap : Nat) (C : Nat → Nat → Int) (w : World) (hr : RdC w ao n C) (hn : n ≤ 4194304) (b : Bool) (HFB : Hid (frameB p wd ht rs n C = b)) (c x y : Int) (HS : Hid (blocksG b wd ht n C c = (x, y))) :
    Calls Try.prog 17 #[.agg #[.int .i64 p, .int .i64 wd, .int .i64 ht, .int .i64 rs, .slice ao n cap], .int .i64 c] w fun e w' => e = .returned (.tuple #[.int .i64 x, .int .i64 y]) ∧ w.grownBy w' none := by
  have G0 : Hid (w.grownBy (w.alloc (.cells #[.int .i64 p, .int .i64 wd, .int .i64 ht, .int .i64 rs, .slice ao n cap] 26)) none) := grown_alloc (World.grownBy.refl _ _) _
  have HB := hide (heap_alloc_new w (.cells #[.int .i64 p, .int .i64 wd, .int .i64 ht, .int .i64 rs, .slice ao n cap] 26))
  have hgs : w.heap.size < (w.alloc (.cells #[.int .i64 p, .int .i64 wd, .int .i64 ht, .int .i64 rs, .slice ao n cap] 26)).heap.size := by simp
  have HR := hide (hr.grown (unhide G0))
  clear hr
  obtain ⟨t, HT⟩ : ∃ t, Hid (decide (0 ≤ c ∧ c ≤ (n : Int) - 1) = t) := ⟨_, rfl⟩
  obtain ⟨bt, HBT⟩ : ∃ bt, Hid ((b && t) = bt) := ⟨_, rfl⟩
  go_enter Try.func17, Try.ntmps17
  go_wp2_with fail
  refine (specComp p wd ht rs ao n cap C _ (unhide HR) hn b HFB c t HT).mono ?_
  generalize (w.alloc (.cells #[.int .i64 p, .int .i64 wd, .int .i64 ht, .int .i64 rs, .slice ao n cap] 26)) = wx at *
  rintro e w1 ⟨rfl, g1⟩
  have cf := frameCells' ((g1.block w.heap.size hgs (by simp)).trans (unhide HB))
  rw [unhide HBT]
  cases bt
  · have hxy : x = 0 ∧ y = 0 := by
      have e1 := unhide HS
      rw [blocksG, unhide HT, unhide HBT] at e1
      simp at e1
      exact ⟨e1.1.symm, e1.2.symm⟩
    obtain ⟨rfl, rfl⟩ := hxy
    go_wp2
    refine bodyPost_ret (v := .tuple #[.int .i64 0, .int .i64 0]) (by simp [results, Try.results17, go_sem]) rfl ⟨rfl, grown_trans (unhide G0) g1⟩
  · obtain ⟨rfl, rfl⟩ : b = true ∧ t = true := by have := unhide HBT; simpa using this
    have hcc := of_decide_eq_true (unhide HT)
    obtain ⟨k, rfl⟩ := Int.eq_ofNat_of_zero_le hcc.1
    have hk : k < n := by omega
    have HE : Hid ((upI wd (8 * mostA 1 C 1 n) * C k 1, upI ht (8 * mostA 1 C 2 n) * C k 2) = (x, y)) := by
      have e1 := unhide HS
      rw [blocksG, unhide HT] at e1
      unfold Hid
      simpa using e1
    obtain ⟨E1, E2⟩ := Prod.mk.inj (unhide HE)
    have hG := geo_of (unhide HFB)
    clear HT hcc HBT
    go_wp2_with fail
    refine (specBlocks p wd ht rs ao n cap C w1 ((unhide HR).grown g1) _ _ hG k hk _ _ rfl rfl).mono ?_
    rw [E1, E2]
    rintro e w2 ⟨rfl, g2⟩
    go_wp2
    refine bodyPost_ret (v := .tuple #[.int .i64 x, .int .i64 y]) (by simp [results, Try.results17, go_sem]) rfl ⟨rfl, grown_trans (unhide G0) (grown_trans g1 g2)⟩

end Go.Proofs.Ytibgldanmhckiaa

namespace Go.Proofs.Ytibgldanmhckiaa
open Go.RowKit

theorem specLevel (ao : Option Addr) (n cap : Nat) (zs : List Int) (w : World) (hr : Rd .i64 w ao n zs) (b : Bool) (hb : Hid (levB (-16383) 16383 zs = b)) :
    Calls Try.prog 45 #[.slice ao n cap] w fun e w' => e = .returned (.bool b) ∧ w.grownBy w' none := by
  have HR := hide hr
  clear hr
  go_enter Try.func45, Try.ntmps45
  go_wp2_with fail
  refine (specLev ao n cap zs _ _ _ (unhide HR) b hb).mono ?_
  rintro e w1 ⟨rfl, g1⟩
  have HG := hide g1
  clear g1
  go_wp2
  go_ret
  exact ⟨rfl, unhide HG⟩

theorem zero_take {xs : List Int} {k : Nat} (hk : k < xs.length) : zeroB (xs.take (k + 1)) = (zeroB (xs.take k) && (xs.getD k 0 == 0)) := by
  unfold zeroB
  rw [List.take_succ_eq_append_getElem hk, List.all_append]
  simp [hk]
theorem zero_no {xs : List Int} {k : Nat} (hk : k < xs.length) (h : (xs.getD k 0 == 0) = false) : zeroB xs = false := by
  cases hx : zeroB xs with
  | false => rfl
  | true =>
    have e : xs.getD k 0 = xs[k] := by simp [hk]
    rw [e, List.all_eq_true.1 hx _ (List.getElem_mem hk)] at h
    exact h

set_option maxHeartbeats 800000 in
theorem specZero (ao : Option Addr) (n cap : Nat) (zs : List Int) (w : World) (hr : Rd .i64 w ao n zs) (hn : n ≤ 1048576) (b : Bool) (hb : Hid (zeroB zs = b)) :
    Calls Try.prog 52 #[.slice ao n cap] w fun e w' => e = .returned (.bool b) ∧ w' = w := by
  have HL := hide hr.1
  have HR := hide hr
  clear hr
  go_enter Try.func52, Try.ntmps52
  go_wp2
  go_loopw [3] (fun iv wr => ∃ i : Nat, i ≤ n ∧ iv = .int .i64 i ∧ Hid (zeroB (zs.take i) = true) ∧ wr = w) (fun iv _ => n - (intOf iv).toNat)
  case atStart => exact ⟨0, Nat.zero_le _, rfl, rfl, rfl⟩
  case round =>
    obtain ⟨i, hi, rfl, ha, rfl⟩ := hrel
    by_cases hlt : i < n
    · obtain ⟨fb, fo, rfl, c0⟩ := (unhide HR).2 i hlt
      have his : i < zs.length := by rw [unhide HL]; exact hlt
      have hal := zero_take his
      have hno := zero_no his
      have hiI : (i : Int) < (n : Int) := by omega
      generalize zs.getD i 0 = x at *
      cases hx : (x == 0) with
      | false =>
        have e : b = false := by rw [← unhide hb]; exact hno hx
        subst e
        have hx2 : (x != 0) = true := by unfold bne; rw [hx]; rfl
        clear hal hno ha hx
        go_wp2
        go_ret
        exact ⟨rfl, rfl⟩
      | true =>
        have HA : Hid (zeroB (zs.take (i + 1)) = true) := by unfold Hid; rw [hal, unhide ha, hx]; rfl
        have hx2 : (x != 0) = false := by unfold bne; rw [hx]; rfl
        clear hal hno ha hx
        go_wp2
        go_roundw
        case rel => exact ⟨i + 1, by omega, by go_num, HA, trivial⟩
        case measure => simp [intOf]; omega
    · obtain rfl : i = n := by omega
      have e : b = true := by
        have h := unhide ha
        rw [← unhide HL, List.take_length] at h
        rw [← unhide hb]; exact h
      subst e
      clear ha
      go_wp2
      go_ret
      exact ⟨rfl, rfl⟩

set_option maxHeartbeats 1600000 in
theorem specNeed (p wd ht rs : Int) (ao : Option Addr) (n cap : Nat) (C : Nat → Nat → Int) (w : World) (hr : RdC w ao n C) (hg : Geo wd ht n C (mostA 1 C 1 n) (mostA 1 C 2 n)) (c : Nat) (hc : c < n) :
    Calls Try.prog 85 #[.agg #[.int .i64 p, .int .i64 wd, .int .i64 ht, .int .i64 rs, .slice ao n cap], .int .i64 c] w fun e w' => e = .returned (.tuple #[.int .i64 (nwG wd n C c : Int), .int .i64 (nhG ht n C c : Int)]) ∧ w.grownBy w' none := by
  have hd := dims_of hg c hc
  have G0 : w.grownBy (w.alloc (.cells #[.int .i64 p, .int .i64 wd, .int .i64 ht, .int .i64 rs, .slice ao n cap] 26)) none := grown_alloc (World.grownBy.refl _ _) _
  have HT := hide (specSize p wd ht rs ao n cap C _ (hr.grown G0) _ _ hg c hc _ _ rfl rfl)
  have hsw := hd.sw
  have hsh := hd.sh
  have HNW : Hid (upI (upI (wd * C c 1) (mostA 1 C 1 n)) 8 = (nwG wd n C c : Int)) := hd.nw
  have HNH : Hid (upI (upI (ht * C c 2) (mostA 1 C 2 n)) 8 = (nhG ht n C c : Int)) := hd.nh
  have HG0 := hide G0
  clear hr hg hd G0
  generalize upI (wd * C c 1) (mostA 1 C 1 n) = sw at *
  generalize upI (ht * C c 2) (mostA 1 C 2 n) = sh at *
  generalize (nwG wd n C c : Int) = nw at *
  generalize (nhG ht n C c : Int) = nh at *
  go_enter Try.func85, Try.ntmps85
  go_wp2_with fail
  refine (unhide HT).mono ?_
  rintro e w1 ⟨rfl, g1⟩
  have HG1 := hide (grown_trans (unhide HG0) g1)
  clear g1 HT
  go_wp2_with fail
  refine (specUp sw 8 nw (by omega) (by omega) HNW _).mono ?_
  rintro e w2 ⟨rfl, rfl⟩
  go_wp2_with fail
  refine (specUp sh 8 nh (by omega) (by omega) HNH _).mono ?_
  rintro e w3 ⟨rfl, rfl⟩
  go_wp2
  go_ret2
  exact ⟨rfl, unhide HG1⟩

set_option maxHeartbeats 1600000 in
theorem specHidden (p wd ht rs : Int) (ao : Option Addr) (n cap : Nat) (C : Nat → Nat → Int) (w : World) (hr : RdC w ao n C) (hg : Geo wd ht n C (mostA 1 C 1 n) (mostA 1 C 2 n)) (c : Nat) (hc : c < n) (ro cl : Int) (b : Bool) (HB : Hid (hiddenI wd ht n C c ro cl = b)) :
    Calls Try.prog 47 #[.agg #[.int .i64 p, .int .i64 wd, .int .i64 ht, .int .i64 rs, .slice ao n cap], .agg #[.int .i64 c, .int .i64 ro, .int .i64 cl]] w fun e w' => e = .returned (.bool b) ∧ w.grownBy w' none := by
  have G0 : w.grownBy ((w.alloc (.cells #[.int .i64 p, .int .i64 wd, .int .i64 ht, .int .i64 rs, .slice ao n cap] 26)).alloc (.cells #[.int .i64 c, .int .i64 ro, .int .i64 cl] 31)) none := grown_alloc (grown_alloc (World.grownBy.refl _ _) _) _
  have HT := hide (specNeed p wd ht rs ao n cap C _ (hr.grown G0) hg c hc)
  have HBX : Hid (((w.alloc (.cells #[.int .i64 p, .int .i64 wd, .int .i64 ht, .int .i64 rs, .slice ao n cap] 26)).alloc (.cells #[.int .i64 c, .int .i64 ro, .int .i64 cl] 31)).heap[w.heap.size + 1]? = some (.cells #[.int .i64 c, .int .i64 ro, .int .i64 cl] 31 (0, 0))) := by
    have := heap_alloc_new (w.alloc (.cells #[.int .i64 p, .int .i64 wd, .int .i64 ht, .int .i64 rs, .slice ao n cap] 26)) (.cells #[.int .i64 c, .int .i64 ro, .int .i64 cl] 31)
    unfold Hid
    simpa using this
  have HG0 := hide G0
  have HBE : Hid ((decide ((nhG ht n C c : Int) ≤ ro) || decide ((nwG wd n C c : Int) ≤ cl)) = b) := HB
  clear hr hg G0 HB
  generalize (nwG wd n C c : Int) = nw at *
  generalize (nhG ht n C c : Int) = nh at *
  go_enter Try.func47, Try.ntmps47
  go_wp2_with fail
  refine (unhide HT).mono ?_
  rintro e w1 ⟨rfl, g1⟩
  have hb1 := grown_atT g1 (unhide HBX) (by simp)
  have c1 : w1.cell? ⟨w.heap.size + 1, 1, none⟩ = some (.int .i64 ro) := by rw [cell_of_row w1 _ 1 _ _ (0, 0) hb1]; rfl
  have c2 : w1.cell? ⟨w.heap.size + 1, 2, none⟩ = some (.int .i64 cl) := by rw [cell_of_row w1 _ 2 _ _ (0, 0) hb1]; rfl
  have HG1 := hide (grown_trans (unhide HG0) g1)
  clear g1 HT hb1 HBX HG0
  by_cases h1 : nh ≤ ro
  · have d1 : decide (nh ≤ ro) = true := decide_eq_true h1
    have e : b = true := by rw [← unhide HBE, d1]; rfl
    subst e
    clear HBE
    go_wp2
    go_ret
    exact ⟨rfl, unhide HG1⟩
  · have d1 : decide (nh ≤ ro) = false := decide_eq_false h1
    obtain ⟨b2, hb2⟩ : ∃ b2, decide (nw ≤ cl) = b2 := ⟨_, rfl⟩
    have e : b = b2 := by rw [← unhide HBE, d1, hb2]; rfl
    subst e
    clear HBE
    go_wp2
    go_ret
    exact ⟨rfl, unhide HG1⟩

set_option maxRecDepth 20000 in
set_option maxHeartbeats 1600000 in
theorem specPlace (p wd ht rs : Int) (ao : Option Addr) (n cap : Nat) (C : Nat → Nat → Int) (w : World) (hr : RdC w ao n C) (hg : Geo wd ht n C (mostA 1 C 1 n) (mostA 1 C 2 n)) (co ro cl : Int) (k : Int) (ok : Bool) (HK : Hid ((match placeO wd ht n C co ro cl with | some k => ((k : Int), true) | none => (0, false)) = (k, ok))) :
    Calls Try.prog 46 #[.agg #[.int .i64 p, .int .i64 wd, .int .i64 ht, .int .i64 rs, .slice ao n cap], .agg #[.int .i64 co, .int .i64 ro, .int .i64 cl]] w fun e w' => e = .returned (.tuple #[.int .i64 k, .bool ok]) ∧ w.grownBy w' none := by
  have G0 : w.grownBy ((w.alloc (.cells #[.int .i64 p, .int .i64 wd, .int .i64 ht, .int .i64 rs, .slice ao n cap] 26)).alloc (.cells #[.int .i64 co, .int .i64 ro, .int .i64 cl] 31)) none := grown_alloc (grown_alloc (World.grownBy.refl _ _) _) _
  have HBX : Hid (((w.alloc (.cells #[.int .i64 p, .int .i64 wd, .int .i64 ht, .int .i64 rs, .slice ao n cap] 26)).alloc (.cells #[.int .i64 co, .int .i64 ro, .int .i64 cl] 31)).heap[w.heap.size + 1]? = some (.cells #[.int .i64 co, .int .i64 ro, .int .i64 cl] 31 (0, 0))) := by
    have := heap_alloc_new (w.alloc (.cells #[.int .i64 p, .int .i64 wd, .int .i64 ht, .int .i64 rs, .slice ao n cap] 26)) (.cells #[.int .i64 co, .int .i64 ro, .int .i64 cl] 31)
    unfold Hid
    simpa using this
  have HG0 := hide G0
  have hn4 := hg.n4
  have HR := hide hr
  have HG := hide hg
  have e0 := i64_in ((n : Int) - 1) (by omega)
  obtain ⟨b0, HB0⟩ : ∃ b, Hid (decide (0 ≤ co ∧ co ≤ (n : Int) - 1) = b) := ⟨_, rfl⟩
  clear hr hg G0
  cases b0 with
  | false =>
    have hno : ¬ (0 ≤ co ∧ co ≤ (n : Int) - 1) := of_decide_eq_false (unhide HB0)
    have hk := unhide HK
    unfold placeO at hk
    rw [if_neg hno] at hk
    obtain ⟨rfl, rfl⟩ := Prod.mk.inj hk
    clear HK hk
    go_enter Try.func46, Try.ntmps46
    go_wp2_with fail
    refine (between co 0 ((n : Int) - 1) false HB0 _).mono ?_
    rintro e w1 ⟨rfl, rfl⟩
    go_wp2
    go_ret2
    exact ⟨rfl, unhide HG0⟩
  | true =>
    have hyes : 0 ≤ co ∧ co ≤ (n : Int) - 1 := of_decide_eq_true (unhide HB0)
    obtain ⟨c, rfl⟩ := Int.eq_ofNat_of_zero_le hyes.1
    have hc : c < n := by omega
    have hd := dims_of (unhide HG) c hc
    have HT := hide (specBlocks p wd ht rs ao n cap C _ ((unhide HR).grown (unhide HG0)) _ _ (unhide HG) c hc _ _ rfl rfl)
    have hk := unhide HK
    unfold placeO at hk
    rw [if_pos hyes, Int.toNat_natCast] at hk
    rw [hd.bw, hd.bh] at HT
    have hbw := hd.bw1
    have hbh := hd.bh1
    generalize bwG wd n C c = bw at *
    generalize bhG ht n C c = bh at *
    have e1 := i64_in ((bh : Int) - 1) (by omega)
    have e2 := i64_in ((bw : Int) - 1) (by omega)
    obtain ⟨b1, HB1⟩ : ∃ b, Hid (decide (0 ≤ ro ∧ ro ≤ (bh : Int) - 1) = b) := ⟨_, rfl⟩
    obtain ⟨b2, HB2⟩ : ∃ b, Hid (decide (0 ≤ cl ∧ cl ≤ (bw : Int) - 1) = b) := ⟨_, rfl⟩
    have HKK := hide hk
    clear hk HK hd
    cases b1 with
    | false =>
      have hno : ¬ ((0 ≤ ro ∧ ro ≤ (bh : Int) - 1) ∧ 0 ≤ cl ∧ cl ≤ (bw : Int) - 1) := fun h => of_decide_eq_false (unhide HB1) h.1
      have hk := unhide HKK
      rw [if_neg hno] at hk
      obtain ⟨rfl, rfl⟩ := Prod.mk.inj hk
      clear hk HKK
      go_enter Try.func46, Try.ntmps46
      go_wp2_with fail
      refine (between (c : Int) 0 ((n : Int) - 1) true HB0 _).mono ?_
      rintro e w1 ⟨rfl, rfl⟩
      go_wp2_with fail
      refine (unhide HT).mono ?_
      rintro e w2 ⟨rfl, g2⟩
      have hb1 := grown_atT g2 (unhide HBX) (by simp)
      have c1 : w2.cell? ⟨w.heap.size + 1, 1, none⟩ = some (.int .i64 ro) := by rw [cell_of_row w2 _ 1 _ _ (0, 0) hb1]; rfl
      have HG2 := hide (grown_trans (unhide HG0) g2)
      clear g2 HT hb1 HBX HG0
      go_wp2_with fail
      refine (between ro 0 ((bh : Int) - 1) false HB1 _).mono ?_
      rintro e w3 ⟨rfl, rfl⟩
      go_wp2
      go_ret2
      exact ⟨rfl, unhide HG2⟩
    | true =>
      cases b2 with
      | false =>
        have hno : ¬ ((0 ≤ ro ∧ ro ≤ (bh : Int) - 1) ∧ 0 ≤ cl ∧ cl ≤ (bw : Int) - 1) := fun h => of_decide_eq_false (unhide HB2) h.2
        have hk := unhide HKK
        rw [if_neg hno] at hk
        obtain ⟨rfl, rfl⟩ := Prod.mk.inj hk
        clear hk HKK
        go_enter Try.func46, Try.ntmps46
        go_wp2_with fail
        refine (between (c : Int) 0 ((n : Int) - 1) true HB0 _).mono ?_
        rintro e w1 ⟨rfl, rfl⟩
        go_wp2_with fail
        refine (unhide HT).mono ?_
        rintro e w2 ⟨rfl, g2⟩
        have hb1 := grown_atT g2 (unhide HBX) (by simp)
        have c1 : w2.cell? ⟨w.heap.size + 1, 1, none⟩ = some (.int .i64 ro) := by rw [cell_of_row w2 _ 1 _ _ (0, 0) hb1]; rfl
        have c2 : w2.cell? ⟨w.heap.size + 1, 2, none⟩ = some (.int .i64 cl) := by rw [cell_of_row w2 _ 2 _ _ (0, 0) hb1]; rfl
        have HG2 := hide (grown_trans (unhide HG0) g2)
        clear g2 HT hb1 HBX HG0
        go_wp2_with fail
        refine (between ro 0 ((bh : Int) - 1) true HB1 _).mono ?_
        rintro e w3 ⟨rfl, rfl⟩
        go_wp2_with fail
        refine (between cl 0 ((bw : Int) - 1) false HB2 _).mono ?_
        rintro e w4 ⟨rfl, rfl⟩
        go_wp2
        go_ret2
        exact ⟨rfl, unhide HG2⟩
      | true =>
        have hro := of_decide_eq_true (unhide HB1)
        have hcl := of_decide_eq_true (unhide HB2)
        have hk := unhide HKK
        rw [if_pos ⟨hro, hcl⟩] at hk
        obtain ⟨hk1, rfl⟩ := Prod.mk.inj hk
        obtain ⟨r, rfl⟩ := Int.eq_ofNat_of_zero_le hro.1
        obtain ⟨l, rfl⟩ := Int.eq_ofNat_of_zero_le hcl.1
        rw [Int.toNat_natCast, Int.toNat_natCast] at hk1
        have hm : r * bw ≤ 127 * 128 := Nat.mul_le_mul (by omega) (by omega)
        obtain ⟨rb, HRB⟩ : ∃ rb, Hid (r * bw = rb) := ⟨_, rfl⟩
        have e3 : (r : Int) * (bw : Int) = (rb : Int) := by rw [← unhide HRB]; simp
        rw [unhide HRB] at hm hk1
        have e4 := i64_in (rb : Int) (by omega)
        have e5 := i64_in ((rb : Int) + (l : Int)) (by omega)
        have hk2 : (rb : Int) + (l : Int) = k := by rw [← hk1]; simp
        have HK2 := hide hk2
        clear hk HKK hk1 hk2
        go_enter Try.func46, Try.ntmps46
        go_wp2_with fail
        refine (between (c : Int) 0 ((n : Int) - 1) true HB0 _).mono ?_
        rintro e w1 ⟨rfl, rfl⟩
        go_wp2_with fail
        refine (unhide HT).mono ?_
        rintro e w2 ⟨rfl, g2⟩
        have hb1 := grown_atT g2 (unhide HBX) (by simp)
        have c1 : w2.cell? ⟨w.heap.size + 1, 1, none⟩ = some (.int .i64 (r : Int)) := by rw [cell_of_row w2 _ 1 _ _ (0, 0) hb1]; rfl
        have c2 : w2.cell? ⟨w.heap.size + 1, 2, none⟩ = some (.int .i64 (l : Int)) := by rw [cell_of_row w2 _ 2 _ _ (0, 0) hb1]; rfl
        have HG2 := hide (grown_trans (unhide HG0) g2)
        clear g2 HT hb1 HBX HG0
        go_wp2_with fail
        refine (between (r : Int) 0 ((bh : Int) - 1) true HB1 _).mono ?_
        rintro e w3 ⟨rfl, rfl⟩
        go_wp2_with fail
        refine (between (l : Int) 0 ((bw : Int) - 1) true HB2 _).mono ?_
        rintro e w4 ⟨rfl, rfl⟩
        go_wp2
        go_ret2
        exact ⟨by rw [← unhide HK2]; rfl, unhide HG2⟩

end Go.Proofs.Ytibgldanmhckiaa

namespace Go.Proofs.Ytibgldanmhckiaa
open Go.RowKit

theorem anyH_take1 {P : Program} {md : Region.Mode} {Q : Exit → Act → World → Prop} {S : World → Prop} {l : List Oper} {i f : Nat} {o : Oper} {v : Value} {listed : Array Bool} {a : Act} {w : World} (ho : l[i]? = some o) (hB : (Region.noSelect l.toArray && Region.free md l.toArray listed i && (Region.ready md l.toArray listed).contains i) = true)
    (hQ : ∀ c a d v w, Q (.panic c) (Act.put a d v) w → Q (.panic c) a w) (hS : S w) (hy : YieldsIf P l.toArray S o v a) (h : wpAnyH P md l.toArray Q S f (listed.setIfInBounds i true) (a.put o.dst v) w) : wpAnyH P md l.toArray Q S (f + 1) listed a w := by
  rw [Bool.and_eq_true, Bool.and_eq_true] at hB
  exact wpAnyH_take (by simpa using ho) hB.1.1 hB.1.2 hB.2 (fun c a w hq => hQ c a _ _ w hq) hy hS h

theorem hid_at {wd ht : Int} {n : Nat} {C : Nat → Nat → Int} {c k bw : Nat} : hiddenI wd ht n C c ((k / bw : Nat) : Int) ((k % bw : Nat) : Int) = hidB bw (nwG wd n C c) (nhG ht n C c) k := by
  unfold hiddenI hidB
  congr 1
  · apply decide_eq_decide.2; omega
  · apply decide_eq_decide.2; omega
theorem all_range {f : Nat → Bool} (k : Nat) : (List.range (k + 1)).all f = ((List.range k).all f && f k) := by rw [List.range_succ, List.all_append]; simp
theorem all_range_no {f : Nat → Bool} {k n : Nat} (hk : k < n) (h : f k = false) : (List.range n).all f = false := by
  cases hx : (List.range n).all f with
  | false => rfl
  | true => rw [List.all_eq_true.1 hx k (List.mem_range.2 hk)] at h; exact h

set_option maxRecDepth 20000 in
set_option maxHeartbeats 6400000 in
theorem specCoefsOk (p wd ht rs : Int) (ao : Option Addr) (n cap : Nat) (C : Nat → Nat → Int) (v : Value) (X : List (List (List Int))) (w : World) (hr : RdC w ao n C) (hx : Rd3 w v X) (hs : szCo X ≤ 1048576) (fb b : Bool) (HFB : Hid (frameB p wd ht rs n C = fb)) (HB : Hid (coefsOkF fb wd ht n C X = b)) :
    Calls Try.prog 14 #[.agg #[.int .i64 p, .int .i64 wd, .int .i64 ht, .int .i64 rs, .slice ao n cap], .agg #[v]] w fun e w' => e = .returned (.bool b) ∧ w.grownBy w' none := by
  obtain ⟨xo, xc, rfl, hel⟩ := id hx
  obtain ⟨W2, hW2⟩ : ∃ W2, ((w.alloc (.cells #[.int .i64 p, .int .i64 wd, .int .i64 ht, .int .i64 rs, .slice ao n cap] 26)).alloc (.cells #[.slice xo X.length xc] 29)) = W2 := ⟨_, rfl⟩
  have G0 : w.grownBy W2 none := by rw [← hW2]; exact grown_alloc (grown_alloc (World.grownBy.refl _ _) _) _
  have B0 : Hid (W2.heap[w.heap.size]? = some (.cells #[.int .i64 p, .int .i64 wd, .int .i64 ht, .int .i64 rs, .slice ao n cap] 26 (0, 0))) := by
    unfold Hid
    rw [← hW2, Below.heap_alloc _ _ _ (by simp)]
    exact heap_alloc_new w _
  have B1 : Hid (W2.heap[w.heap.size + 1]? = some (.cells #[.slice xo X.length xc] 29 (0, 0))) := by
    unfold Hid
    rw [← hW2]
    have := heap_alloc_new (w.alloc (.cells #[.int .i64 p, .int .i64 wd, .int .i64 ht, .int .i64 rs, .slice ao n cap] 26)) (.cells #[.slice xo X.length xc] 29)
    simpa using this
  have HFO := hide (specFrameOk p wd ht rs ao n cap C W2 (hr.grown G0) fb HFB)
  have HW := hide hW2
  have HG0 := hide G0
  have HR := hide hr
  have HEL := hide hel
  have HS := hide hs
  have hlen : X.length ≤ 1048576 := Nat.le_trans (szR_len _ X) hs
  have HLEN := hide hlen
  obtain ⟨m, HM⟩ : ∃ m, Hid (X.length = m) := ⟨_, rfl⟩
  rw [unhide HM] at B1 HW hlen ⊢
  clear hW2 G0 hr hx hel hs
  cases fb with
  | false =>
    have e : b = false := by rw [← unhide HB]; rfl
    subst e
    clear HB
    go_enter Try.func14, Try.ntmps14
    go_wp2_with fail
    rw [unhide HW]
    refine (unhide HFO).mono ?_
    rintro e w1 ⟨rfl, g1⟩
    have HG1 := hide (grown_trans (unhide HG0) g1)
    clear g1 HFO
    go_wp2
    go_ret
    exact ⟨rfl, unhide HG1⟩
  | true =>
    have hg := geo_of (unhide HFB)
    have hn4 := hg.n4
    have HG := hide hg
    obtain ⟨f, HF⟩ : ∃ f : Nat → Bool, Hid ((fun c => planeB (bwG wd n C c) (bhG ht n C c) (nwG wd n C c) (nhG ht n C c) (X.getD c [])) = f) := ⟨_, rfl⟩
    have HBE : Hid (b = (decide (m = n) && (List.range m).all f)) := by
      have h := unhide HB
      unfold coefsOkF coefsOkB at h
      rw [unhide HF, unhide HM] at h
      exact h.symm
    clear hg HB
    by_cases hmn : m = n
    · subst hmn
      have hne : ((m : Int) != (m : Int)) = false := by simp
      have HBE2 : Hid (b = (List.range m).all f) := by have h := unhide HBE; rw [decide_eq_true rfl] at h; exact h
      clear HBE
      go_enter Try.func14, Try.ntmps14
      go_wp2_with fail
      rw [unhide HW]
      refine (unhide HFO).mono ?_
      rintro e w1 ⟨rfl, g1⟩
      have HG1 := hide (grown_trans (unhide HG0) g1)
      have HB0 := hide (grown_atT g1 (unhide B0) (by simp))
      have HB1 := hide (grown_atT g1 (unhide B1) (by simp))
      have c4 := (frameCells' (unhide HB0)).2.2.2.2
      have d0 : w1.cell? ⟨w.heap.size + 1, 0, none⟩ = some (.slice xo m xc) := by rw [cell_of_row w1 _ 0 _ _ (0, 0) (unhide HB1)]; rfl
      clear g1 HFO B0 B1 HG0
      go_wp2
      clear c4 d0
      go_loopw [5] (fun iv wr => ∃ i : Nat, i ≤ m ∧ iv = .int .i64 i ∧ Hid ((List.range i).all f = true) ∧ Hid (w1.grownBy wr none)) (fun iv _ => m - (intOf iv).toNat)
      case atStart => exact ⟨0, Nat.zero_le _, rfl, rfl, World.grownBy.refl _ _⟩
      case round =>
        obtain ⟨i, hi, rfl, ha, hgw⟩ := hrel
        have HBF := hide (grown_atT (unhide hgw) (unhide HB0) (by simp))
        have hbx := grown_atT (unhide hgw) (unhide HB1) (by simp)
        have d0 : wr.cell? ⟨w.heap.size + 1, 0, none⟩ = some (.slice xo m xc) := by rw [cell_of_row wr _ 0 _ _ (0, 0) hbx]; rfl
        have HGW := hide (grown_trans (unhide HG1) (unhide hgw))
        clear hbx
        by_cases hlt : i < m
        · have hia : i < X.length := by rw [unhide HM]; exact hlt
          have hal := all_range (f := f) i
          have hno := all_range_no (f := f) hlt
          have hd := dims_of (unhide HG) i hlt
          have HT := hide (specBlocks p wd ht rs ao m cap C wr ((unhide HR).grown (unhide HGW)) _ _ (unhide HG) i hlt _ _ rfl rfl)
          rw [hd.bw, hd.bh] at HT
          have hbw := hd.bw1
          have hbh := hd.bh1
          obtain ⟨pb, poff, pu, rfl, pc0, pq⟩ := unhide HEL i hia
          obtain ⟨po, pcap, rfl, pel⟩ := pq
          have HPE := hide pel
          have hsz := (szR_el (szR lenI) X i hia).2
          have hpl : X[i].length ≤ 1048576 := Nat.le_trans (szR_len lenI X[i]) (Nat.le_trans hsz (unhide HS))
          have HSP : Hid (szR lenI X[i] ≤ 1048576) := Nat.le_trans hsz (unhide HS)
          have hfi : f i = planeB (bwG wd m C i) (bhG ht m C i) (nwG wd m C i) (nhG ht m C i) X[i] := by
            rw [← unhide HF]
            dsimp only
            congr 1
            simp [hia]
          have HPI : Hid (∀ k, hiddenI wd ht m C i ((k / bwG wd m C i : Nat) : Int) ((k % bwG wd m C i : Nat) : Int) = hidB (bwG wd m C i) (nwG wd m C i) (nhG ht m C i) k) := fun k => hid_at
          obtain ⟨bw, HBW⟩ : ∃ bw, Hid (bwG wd m C i = bw) := ⟨_, rfl⟩
          obtain ⟨bh, HBH⟩ : ∃ bh, Hid (bhG ht m C i = bh) := ⟨_, rfl⟩
          rw [unhide HBW] at HT hbw hfi HPI
          rw [unhide HBH] at HT hbh hfi
          generalize nwG wd m C i = nw at hfi HPI
          generalize nhG ht m C i = nh at hfi HPI
          generalize X[i] = Pl at *
          have hm : bw * bh ≤ 128 * 128 := Nat.mul_le_mul hbw.2 hbh.2
          obtain ⟨bn, hbn⟩ : ∃ bn, bw * bh = bn := ⟨_, rfl⟩
          have e3 : (bw : Int) * (bh : Int) = (bn : Int) := by rw [← hbn]; simp
          rw [hbn] at hm
          have e4 := i64_in (bn : Int) (by omega)
          obtain ⟨g, HGG⟩ : ∃ g : Nat → Bool, Hid ((fun k => blockB (hidB bw nw nh k) (Pl.getD k [])) = g) := ⟨_, rfl⟩
          obtain ⟨pl, HPL⟩ : ∃ pl, Hid (Pl.length = pl) := ⟨_, rfl⟩
          have hfi2 : f i = (decide (pl = bn) && (List.range pl).all g) := by rw [hfi]; unfold planeB; rw [unhide HGG, unhide HPL, hbn]
          have hiI : (i : Int) < (m : Int) := by omega
          rw [unhide HPL] at hpl pc0
          have HFI := hide hfi2
          have HAL := hide hal
          have HNO := hide hno
          obtain ⟨f0, f1, f2, f3, f4⟩ := frameCells' (unhide HBF)
          clear hd hsz hfi hfi2 hal hno pel hbn
          go_wp2_with fail
          refine (unhide HT).mono ?_
          rintro e w2 ⟨rfl, g2⟩
          have HG2 := hide (grown_trans (unhide hgw) g2)
          have hb0 := grown_atT g2 (unhide HBF) (by simp)
          have hb1 := grown_atT (unhide HG2) (unhide HB1) (by simp)
          have d2 : w2.cell? ⟨w.heap.size + 1, 0, none⟩ = some (.slice (some ⟨pb, poff, none⟩) m xc) := by rw [cell_of_row w2 _ 0 _ _ (0, 0) hb1]; rfl
          have p2 := (grown_trans (unhide HG1) (unhide HG2)).cell pc0 (by simp)
          have HGB := hide (grown_trans (unhide HG1) (unhide HG2))
          clear f0 f1 f2 f3 f4 HT g2 hb0 hb1 HBF d0
          by_cases hpn : pl = bn
          · subst hpn
            have hne2 : ((pl : Int) != (pl : Int)) = false := by simp
            go_wp2
            clear d2 p2
            go_loopw [8] (fun kv wr2 => ∃ k : Nat, k ≤ pl ∧ kv = .int .i64 k ∧ Hid ((List.range k).all g = true) ∧ Hid (w1.grownBy wr2 none)) (fun kv _ => pl - (intOf kv).toNat)
            case atStart => exact ⟨0, Nat.zero_le _, rfl, rfl, HG2⟩
            case round =>
              clear HG2 HGB HGW hgw
              obtain ⟨k, hk, rfl, hka, hgw⟩ := hrel
              have HBF := hide (grown_atT (unhide hgw) (unhide HB0) (by simp))
              have hbx := grown_atT (unhide hgw) (unhide HB1) (by simp)
              have d0 : wr.cell? ⟨w.heap.size + 1, 0, none⟩ = some (.slice (some ⟨pb, poff, none⟩) m xc) := by rw [cell_of_row wr _ 0 _ _ (0, 0) hbx]; rfl
              have HGW := hide (grown_trans (unhide HG1) (unhide hgw))
              have p0 := (unhide HGW).cell pc0 (by simp)
              clear hbx
              by_cases hkl : k < pl
              · have hka2 : k < Pl.length := by rw [unhide HPL]; exact hkl
                obtain ⟨kb, koff, ku, rfl, kc0, kq⟩ := unhide HPE k hka2
                obtain ⟨zo, zcap, rfl, zr⟩ := kq
                have z0 := (unhide HGW).cell kc0 (by simp)
                have hzl : Pl[k].length ≤ 1048576 := Nat.le_trans ((szR_el lenI Pl k hka2).2) (unhide HSP)
                have hgk : g k = blockB (hidB bw nw nh k) Pl[k] := by rw [← unhide HGG]; dsimp only; congr 1; simp [hka2]
                have hak := all_range (f := g) k
                have hnk := all_range_no (f := g) hkl
                generalize Pl[k] = zs at *
                have HZ := hide (zr.grown (unhide HGW))
                obtain ⟨zn, HZN⟩ : ∃ zn, Hid (zs.length = zn) := ⟨_, rfl⟩
                rw [unhide HZN] at HZ z0 hzl
                have hkI : (k : Int) < (pl : Int) := by omega
                obtain ⟨lv, HLV⟩ : ∃ lv, Hid (levB (-16383) 16383 zs = lv) := ⟨_, rfl⟩
                obtain ⟨f0, f1, f2, f3, f4⟩ := frameCells' (unhide HBF)
                obtain ⟨kr, HKR⟩ : ∃ kr, Hid (k / bw = kr) := ⟨_, rfl⟩
                obtain ⟨kc, HKC⟩ : ∃ kc, Hid (k % bw = kc) := ⟨_, rfl⟩
                have e5 : (k : Int).tdiv (bw : Int) = (kr : Int) := by rw [Int.tdiv_eq_ediv_of_nonneg (by omega), ← unhide HKR]; simp
                have e6 : (k : Int).tmod (bw : Int) = (kc : Int) := by rw [Int.tmod_eq_emod_of_nonneg (by omega), ← unhide HKC]; simp
                have hkr : kr ≤ k := by rw [← unhide HKR]; exact Nat.div_le_self _ _
                have hkc : kc ≤ k := by rw [← unhide HKC]; exact Nat.mod_le _ _
                have hkp : k ≤ 16384 := by omega
                have e7 := i64_in (kr : Int) (by omega)
                have e8 := i64_in (kc : Int) (by omega)
                have hb0 : ((bw : Int) == 0) = false := beq_false_of_ne (by omega)
                have hb1 : ((bw : Int) == -1) = false := beq_false_of_ne (by omega)
                have hbz : ¬ bw = 0 := by omega
                have HZD := hide ((unhide HZ).grown (grown_drew (World.grownBy.refl wr none)))
                have KEEP : Hid (∀ W, wr.drew.grownBy W none → W.cell? ⟨w.heap.size, 0, none⟩ = some (.int .i64 p) ∧ W.cell? ⟨w.heap.size, 1, none⟩ = some (.int .i64 wd) ∧ W.cell? ⟨w.heap.size, 2, none⟩ = some (.int .i64 ht) ∧ W.cell? ⟨w.heap.size, 3, none⟩ = some (.int .i64 rs) ∧ W.cell? ⟨w.heap.size, 4, none⟩ = some (.slice ao m cap)) := fun W gW => frameCells' (grown_atT (grown_trans (grown_drew (World.grownBy.refl wr none)) gW) (unhide HBF) (by simp))
                cases lv with
                | false =>
                  have e : b = false := by
                    rw [unhide HBE2]
                    refine unhide HNO ?_
                    rw [unhide HFI, hnk (by rw [hgk, blockB, unhide HLV, Bool.false_and])]; simp
                  subst e
                  clear hak hnk hgk
                  go_wp2
                  refine wp_region_noPanic ?_
                  refine wp_region_raw (fun w' => w'.cell? ⟨w.heap.size, 0, none⟩ = some (.int .i64 p) ∧ w'.cell? ⟨w.heap.size, 1, none⟩ = some (.int .i64 wd) ∧ w'.cell? ⟨w.heap.size, 2, none⟩ = some (.int .i64 ht) ∧ w'.cell? ⟨w.heap.size, 3, none⟩ = some (.int .i64 rs) ∧ w'.cell? ⟨w.heap.size, 4, none⟩ = some (.slice ao m cap)) [true, false, false, false, false, false, false, false, false, false, false, false, false, false, false, false, false, false, false, false] (by kernel_rfl) (fun _ _ _ _ _ h => h) rfl (by kernel_rfl) ⟨f0, f1, f2, f3, f4⟩ ?_
                  refine heldF_take (v := ?_) (Or.inl ⟨by rfl, ?_⟩) ?_
                  rotate_left 1
                  · intro w' hSw
                    go_simp
                    try with_reducible rfl
                  try simp only [Act.put, List.setIfInBounds_toArray, List.set_cons_zero, List.set_cons_succ]
                  iterate 19 refine heldF_skip ?_
                  refine heldF_nil ?_
                  refine anyH_step1 (i := 1) rfl (by kernel_rfl) (fun K hK => ?_)
                  go_simp
                  refine (specLevel zo zn zcap zs wr.drew (unhide HZD) false HLV).mono ?_
                  rintro e w5 ⟨rfl, g5⟩
                  have HS5 := hide (unhide KEEP _ g5)
                  have HG5 := hide g5
                  clear g5
                  go_simp
                  refine hK.out _ _ (unhide HS5) ?_
                  clear hK K
                  try simp only [Act.put, List.setIfInBounds_toArray, List.set_cons_zero, List.set_cons_succ]
                  refine anyH_take1 (i := 2) (v := ?_) rfl (by kernel_rfl) (fun _ _ _ _ _ h => h) (unhide HS5) (Or.inl ⟨by rfl, ?_⟩) ?_
                  rotate_left 1
                  · intro w' hSw
                    try dsimp only at hSw
                    obtain ⟨z0, z1, z2, z3, z4⟩ := hSw
                    go_simp
                    try with_reducible rfl
                  try simp only [Act.put, List.setIfInBounds_toArray, List.set_cons_zero, List.set_cons_succ]
                  refine anyH_take1 (i := 3) (v := ?_) rfl (by kernel_rfl) (fun _ _ _ _ _ h => h) (unhide HS5) (Or.inl ⟨by rfl, ?_⟩) ?_
                  rotate_left 1
                  · intro w' hSw
                    try dsimp only at hSw
                    obtain ⟨z0, z1, z2, z3, z4⟩ := hSw
                    go_simp
                    try with_reducible rfl
                  try simp only [Act.put, List.setIfInBounds_toArray, List.set_cons_zero, List.set_cons_succ]
                  refine anyH_take1 (i := 4) (v := undef) rfl (by kernel_rfl) (fun _ _ _ _ _ h => h) (unhide HS5) (Or.inr ⟨by rfl, rfl⟩) ?_
                  try simp only [Act.put, List.setIfInBounds_toArray, List.set_cons_zero, List.set_cons_succ]
                  refine anyH_take1 (i := 5) (v := undef) rfl (by kernel_rfl) (fun _ _ _ _ _ h => h) (unhide HS5) (Or.inr ⟨by rfl, rfl⟩) ?_
                  try simp only [Act.put, List.setIfInBounds_toArray, List.set_cons_zero, List.set_cons_succ]
                  refine anyH_take1 (i := 6) (v := undef) rfl (by kernel_rfl) (fun _ _ _ _ _ h => h) (unhide HS5) (Or.inr ⟨by rfl, rfl⟩) ?_
                  try simp only [Act.put, List.setIfInBounds_toArray, List.set_cons_zero, List.set_cons_succ]
                  refine anyH_take1 (i := 7) (v := undef) rfl (by kernel_rfl) (fun _ _ _ _ _ h => h) (unhide HS5) (Or.inr ⟨by rfl, rfl⟩) ?_
                  try simp only [Act.put, List.setIfInBounds_toArray, List.set_cons_zero, List.set_cons_succ]
                  refine anyH_take1 (i := 8) (v := undef) rfl (by kernel_rfl) (fun _ _ _ _ _ h => h) (unhide HS5) (Or.inr ⟨by rfl, rfl⟩) ?_
                  try simp only [Act.put, List.setIfInBounds_toArray, List.set_cons_zero, List.set_cons_succ]
                  refine anyH_take1 (i := 9) (v := undef) rfl (by kernel_rfl) (fun _ _ _ _ _ h => h) (unhide HS5) (Or.inr ⟨by rfl, rfl⟩) ?_
                  try simp only [Act.put, List.setIfInBounds_toArray, List.set_cons_zero, List.set_cons_succ]
                  refine anyH_take1 (i := 10) (v := undef) rfl (by kernel_rfl) (fun _ _ _ _ _ h => h) (unhide HS5) (Or.inr ⟨by rfl, rfl⟩) ?_
                  try simp only [Act.put, List.setIfInBounds_toArray, List.set_cons_zero, List.set_cons_succ]
                  refine anyH_take1 (i := 11) (v := undef) rfl (by kernel_rfl) (fun _ _ _ _ _ h => h) (unhide HS5) (Or.inr ⟨by rfl, rfl⟩) ?_
                  try simp only [Act.put, List.setIfInBounds_toArray, List.set_cons_zero, List.set_cons_succ]
                  refine anyH_take1 (i := 12) (v := undef) rfl (by kernel_rfl) (fun _ _ _ _ _ h => h) (unhide HS5) (Or.inr ⟨by rfl, rfl⟩) ?_
                  try simp only [Act.put, List.setIfInBounds_toArray, List.set_cons_zero, List.set_cons_succ]
                  refine anyH_take1 (i := 13) (v := undef) rfl (by kernel_rfl) (fun _ _ _ _ _ h => h) (unhide HS5) (Or.inr ⟨by rfl, rfl⟩) ?_
                  try simp only [Act.put, List.setIfInBounds_toArray, List.set_cons_zero, List.set_cons_succ]
                  refine anyH_take1 (i := 14) (v := undef) rfl (by kernel_rfl) (fun _ _ _ _ _ h => h) (unhide HS5) (Or.inr ⟨by rfl, rfl⟩) ?_
                  try simp only [Act.put, List.setIfInBounds_toArray, List.set_cons_zero, List.set_cons_succ]
                  refine anyH_take1 (i := 15) (v := undef) rfl (by kernel_rfl) (fun _ _ _ _ _ h => h) (unhide HS5) (Or.inr ⟨by rfl, rfl⟩) ?_
                  try simp only [Act.put, List.setIfInBounds_toArray, List.set_cons_zero, List.set_cons_succ]
                  refine anyH_take1 (i := 16) (v := undef) rfl (by kernel_rfl) (fun _ _ _ _ _ h => h) (unhide HS5) (Or.inr ⟨by rfl, rfl⟩) ?_
                  try simp only [Act.put, List.setIfInBounds_toArray, List.set_cons_zero, List.set_cons_succ]
                  refine anyH_take1 (i := 17) (v := undef) rfl (by kernel_rfl) (fun _ _ _ _ _ h => h) (unhide HS5) (Or.inr ⟨by rfl, rfl⟩) ?_
                  try simp only [Act.put, List.setIfInBounds_toArray, List.set_cons_zero, List.set_cons_succ]
                  refine anyH_take1 (i := 18) (v := undef) rfl (by kernel_rfl) (fun _ _ _ _ _ h => h) (unhide HS5) (Or.inr ⟨by rfl, rfl⟩) ?_
                  try simp only [Act.put, List.setIfInBounds_toArray, List.set_cons_zero, List.set_cons_succ]
                  refine anyH_take1 (i := 19) (v := ?_) rfl (by kernel_rfl) (fun _ _ _ _ _ h => h) (unhide HS5) (Or.inl ⟨by rfl, ?_⟩) ?_
                  rotate_left 1
                  · intro w' hSw
                    try dsimp only at hSw
                    obtain ⟨z0, z1, z2, z3, z4⟩ := hSw
                    go_simp
                    try with_reducible rfl
                  try simp only [Act.put, List.setIfInBounds_toArray, List.set_cons_zero, List.set_cons_succ]
                  refine wpAnyH_done (by kernel_rfl) (NoPanic.normal ?_) _
                  have HFIN := hide (grown_trans (unhide HGW) (grown_trans (grown_drew (World.grownBy.refl wr none)) (unhide HG5)))
                  clear HGW
                  go_wp2
                  go_ret
                  exact ⟨rfl, unhide HFIN⟩
                | true =>
                  have HPK := hide (unhide HPI k)
                  rw [unhide HKR, unhide HKC] at HPK
                  obtain ⟨hd, HHD⟩ : ∃ hd, Hid (hidB bw nw nh k = hd) := ⟨_, rfl⟩
                  rw [unhide HHD] at HPK hgk
                  cases hd with
                  | false =>
                    have HA3 : Hid ((List.range (k + 1)).all g = true) := by unfold Hid; rw [hak, unhide hka, hgk, blockB, unhide HLV]; rfl
                    clear hak hnk hgk
                    go_wp2
                    refine wp_region_noPanic ?_
                    refine wp_region_raw (fun w' => w'.cell? ⟨w.heap.size, 0, none⟩ = some (.int .i64 p) ∧ w'.cell? ⟨w.heap.size, 1, none⟩ = some (.int .i64 wd) ∧ w'.cell? ⟨w.heap.size, 2, none⟩ = some (.int .i64 ht) ∧ w'.cell? ⟨w.heap.size, 3, none⟩ = some (.int .i64 rs) ∧ w'.cell? ⟨w.heap.size, 4, none⟩ = some (.slice ao m cap)) [true, false, false, false, false, false, false, false, false, false, false, false, false, false, false, false, false, false, false, false] (by kernel_rfl) (fun _ _ _ _ _ h => h) rfl (by kernel_rfl) ⟨f0, f1, f2, f3, f4⟩ ?_
                    refine heldF_take (v := ?_) (Or.inl ⟨by rfl, ?_⟩) ?_
                    rotate_left 1
                    · intro w' hSw
                      go_simp
                      try with_reducible rfl
                    try simp only [Act.put, List.setIfInBounds_toArray, List.set_cons_zero, List.set_cons_succ]
                    iterate 19 refine heldF_skip ?_
                    refine heldF_nil ?_
                    refine anyH_step1 (i := 1) rfl (by kernel_rfl) (fun K hK => ?_)
                    go_simp
                    refine (specLevel zo zn zcap zs wr.drew (unhide HZD) true HLV).mono ?_
                    rintro e w5 ⟨rfl, g5⟩
                    have HS5 := hide (unhide KEEP _ g5)
                    have HG5 := hide g5
                    clear g5
                    go_simp
                    refine hK.out _ _ (unhide HS5) ?_
                    clear hK K
                    try simp only [Act.put, List.setIfInBounds_toArray, List.set_cons_zero, List.set_cons_succ]
                    refine anyH_take1 (i := 2) (v := ?_) rfl (by kernel_rfl) (fun _ _ _ _ _ h => h) (unhide HS5) (Or.inl ⟨by rfl, ?_⟩) ?_
                    rotate_left 1
                    · intro w' hSw
                      try dsimp only at hSw
                      obtain ⟨z0, z1, z2, z3, z4⟩ := hSw
                      go_simp
                      try with_reducible rfl
                    try simp only [Act.put, List.setIfInBounds_toArray, List.set_cons_zero, List.set_cons_succ]
                    refine anyH_take1 (i := 3) (v := ?_) rfl (by kernel_rfl) (fun _ _ _ _ _ h => h) (unhide HS5) (Or.inl ⟨by rfl, ?_⟩) ?_
                    rotate_left 1
                    · intro w' hSw
                      try dsimp only at hSw
                      obtain ⟨z0, z1, z2, z3, z4⟩ := hSw
                      go_simp
                      try with_reducible rfl
                    try simp only [Act.put, List.setIfInBounds_toArray, List.set_cons_zero, List.set_cons_succ]
                    refine anyH_take1 (i := 4) (v := ?_) rfl (by kernel_rfl) (fun _ _ _ _ _ h => h) (unhide HS5) (Or.inl ⟨by rfl, ?_⟩) ?_
                    rotate_left 1
                    · intro w' hSw
                      try dsimp only at hSw
                      obtain ⟨z0, z1, z2, z3, z4⟩ := hSw
                      go_simp
                      try with_reducible rfl
                    try simp only [Act.put, List.setIfInBounds_toArray, List.set_cons_zero, List.set_cons_succ]
                    refine anyH_take1 (i := 5) (v := ?_) rfl (by kernel_rfl) (fun _ _ _ _ _ h => h) (unhide HS5) (Or.inl ⟨by rfl, ?_⟩) ?_
                    rotate_left 1
                    · intro w' hSw
                      try dsimp only at hSw
                      obtain ⟨z0, z1, z2, z3, z4⟩ := hSw
                      go_simp
                      try with_reducible rfl
                    try simp only [Act.put, List.setIfInBounds_toArray, List.set_cons_zero, List.set_cons_succ]
                    refine anyH_take1 (i := 6) (v := ?_) rfl (by kernel_rfl) (fun _ _ _ _ _ h => h) (unhide HS5) (Or.inl ⟨by rfl, ?_⟩) ?_
                    rotate_left 1
                    · intro w' hSw
                      try dsimp only at hSw
                      obtain ⟨z0, z1, z2, z3, z4⟩ := hSw
                      go_simp
                      try with_reducible rfl
                    try simp only [Act.put, List.setIfInBounds_toArray, List.set_cons_zero, List.set_cons_succ]
                    refine anyH_take1 (i := 7) (v := ?_) rfl (by kernel_rfl) (fun _ _ _ _ _ h => h) (unhide HS5) (Or.inl ⟨by rfl, ?_⟩) ?_
                    rotate_left 1
                    · intro w' hSw
                      try dsimp only at hSw
                      obtain ⟨z0, z1, z2, z3, z4⟩ := hSw
                      go_simp
                      try with_reducible rfl
                    try simp only [Act.put, List.setIfInBounds_toArray, List.set_cons_zero, List.set_cons_succ]
                    refine anyH_take1 (i := 8) (v := ?_) rfl (by kernel_rfl) (fun _ _ _ _ _ h => h) (unhide HS5) (Or.inl ⟨by rfl, ?_⟩) ?_
                    rotate_left 1
                    · intro w' hSw
                      try dsimp only at hSw
                      obtain ⟨z0, z1, z2, z3, z4⟩ := hSw
                      go_simp
                      try with_reducible rfl
                    try simp only [Act.put, List.setIfInBounds_toArray, List.set_cons_zero, List.set_cons_succ]
                    refine anyH_take1 (i := 9) (v := ?_) rfl (by kernel_rfl) (fun _ _ _ _ _ h => h) (unhide HS5) (Or.inl ⟨by rfl, ?_⟩) ?_
                    rotate_left 1
                    · intro w' hSw
                      try dsimp only at hSw
                      obtain ⟨z0, z1, z2, z3, z4⟩ := hSw
                      go_simp
                      try with_reducible rfl
                    try simp only [Act.put, List.setIfInBounds_toArray, List.set_cons_zero, List.set_cons_succ]
                    refine anyH_take1 (i := 10) (v := ?_) rfl (by kernel_rfl) (fun _ _ _ _ _ h => h) (unhide HS5) (Or.inl ⟨by rfl, ?_⟩) ?_
                    rotate_left 1
                    · intro w' hSw
                      try dsimp only at hSw
                      obtain ⟨z0, z1, z2, z3, z4⟩ := hSw
                      go_simp
                      try with_reducible rfl
                    try simp only [Act.put, List.setIfInBounds_toArray, List.set_cons_zero, List.set_cons_succ]
                    refine anyH_take1 (i := 11) (v := ?_) rfl (by kernel_rfl) (fun _ _ _ _ _ h => h) (unhide HS5) (Or.inl ⟨by rfl, ?_⟩) ?_
                    rotate_left 1
                    · intro w' hSw
                      try dsimp only at hSw
                      obtain ⟨z0, z1, z2, z3, z4⟩ := hSw
                      go_simp
                      try with_reducible rfl
                    try simp only [Act.put, List.setIfInBounds_toArray, List.set_cons_zero, List.set_cons_succ]
                    refine anyH_take1 (i := 12) (v := ?_) rfl (by kernel_rfl) (fun _ _ _ _ _ h => h) (unhide HS5) (Or.inl ⟨by rfl, ?_⟩) ?_
                    rotate_left 1
                    · intro w' hSw
                      try dsimp only at hSw
                      obtain ⟨z0, z1, z2, z3, z4⟩ := hSw
                      go_simp
                      try with_reducible rfl
                    try simp only [Act.put, List.setIfInBounds_toArray, List.set_cons_zero, List.set_cons_succ]
                    refine anyH_step1 (i := 13) rfl (by kernel_rfl) (fun K hK => ?_)
                    go_simp
                    refine (specHidden p wd ht rs ao m cap C w5 ((unhide HR).grown (grown_trans (unhide HGW) (grown_trans (grown_drew (World.grownBy.refl wr none)) (unhide HG5)))) (unhide HG) i hlt (kr : Int) (kc : Int) false HPK).mono ?_
                    rintro e w6 ⟨rfl, g6⟩
                    have HS6 := hide (unhide KEEP _ (grown_trans (unhide HG5) g6))
                    have HG6 := hide (grown_trans (unhide HG5) g6)
                    clear g6
                    go_simp
                    refine hK.out _ _ (unhide HS6) ?_
                    clear hK K
                    try simp only [Act.put, List.setIfInBounds_toArray, List.set_cons_zero, List.set_cons_succ]
                    refine anyH_take1 (i := 14) (v := ?_) rfl (by kernel_rfl) (fun _ _ _ _ _ h => h) (unhide HS6) (Or.inl ⟨by rfl, ?_⟩) ?_
                    rotate_left 1
                    · intro w' hSw
                      try dsimp only at hSw
                      obtain ⟨z0, z1, z2, z3, z4⟩ := hSw
                      go_simp
                      try with_reducible rfl
                    try simp only [Act.put, List.setIfInBounds_toArray, List.set_cons_zero, List.set_cons_succ]
                    refine anyH_take1 (i := 15) (v := undef) rfl (by kernel_rfl) (fun _ _ _ _ _ h => h) (unhide HS6) (Or.inr ⟨by rfl, rfl⟩) ?_
                    try simp only [Act.put, List.setIfInBounds_toArray, List.set_cons_zero, List.set_cons_succ]
                    refine anyH_take1 (i := 16) (v := undef) rfl (by kernel_rfl) (fun _ _ _ _ _ h => h) (unhide HS6) (Or.inr ⟨by rfl, rfl⟩) ?_
                    try simp only [Act.put, List.setIfInBounds_toArray, List.set_cons_zero, List.set_cons_succ]
                    refine anyH_take1 (i := 17) (v := undef) rfl (by kernel_rfl) (fun _ _ _ _ _ h => h) (unhide HS6) (Or.inr ⟨by rfl, rfl⟩) ?_
                    try simp only [Act.put, List.setIfInBounds_toArray, List.set_cons_zero, List.set_cons_succ]
                    refine anyH_take1 (i := 18) (v := ?_) rfl (by kernel_rfl) (fun _ _ _ _ _ h => h) (unhide HS6) (Or.inl ⟨by rfl, ?_⟩) ?_
                    rotate_left 1
                    · intro w' hSw
                      try dsimp only at hSw
                      obtain ⟨z0, z1, z2, z3, z4⟩ := hSw
                      go_simp
                      try with_reducible rfl
                    try simp only [Act.put, List.setIfInBounds_toArray, List.set_cons_zero, List.set_cons_succ]
                    refine anyH_take1 (i := 19) (v := ?_) rfl (by kernel_rfl) (fun _ _ _ _ _ h => h) (unhide HS6) (Or.inl ⟨by rfl, ?_⟩) ?_
                    rotate_left 1
                    · intro w' hSw
                      try dsimp only at hSw
                      obtain ⟨z0, z1, z2, z3, z4⟩ := hSw
                      go_simp
                      try with_reducible rfl
                    try simp only [Act.put, List.setIfInBounds_toArray, List.set_cons_zero, List.set_cons_succ]
                    refine wpAnyH_done (by kernel_rfl) (NoPanic.normal ?_) _
                    have HFIN := hide (grown_trans (unhide hgw) (grown_trans (grown_drew (World.grownBy.refl wr none)) (unhide HG6)))
                    clear HGW hgw
                    go_wp2
                    go_roundw
                    case rel => exact ⟨k + 1, by omega, by go_num, HA3, HFIN⟩
                    case measure => simp [intOf]; omega
                  | true =>
                    obtain ⟨zb, HZB⟩ : ∃ zb, Hid (zeroB zs = zb) := ⟨_, rfl⟩
                    cases zb with
                    | false =>
                      have e : b = false := by
                        rw [unhide HBE2]
                        refine unhide HNO ?_
                        rw [unhide HFI, hnk (by rw [hgk, blockB, unhide HLV, unhide HZB]; rfl)]; simp
                      subst e
                      clear hak hnk hgk
                      go_wp2
                      refine wp_region_noPanic ?_
                      refine wp_region_raw (fun w' => w'.cell? ⟨w.heap.size, 0, none⟩ = some (.int .i64 p) ∧ w'.cell? ⟨w.heap.size, 1, none⟩ = some (.int .i64 wd) ∧ w'.cell? ⟨w.heap.size, 2, none⟩ = some (.int .i64 ht) ∧ w'.cell? ⟨w.heap.size, 3, none⟩ = some (.int .i64 rs) ∧ w'.cell? ⟨w.heap.size, 4, none⟩ = some (.slice ao m cap)) [true, false, false, false, false, false, false, false, false, false, false, false, false, false, false, false, false, false, false, false] (by kernel_rfl) (fun _ _ _ _ _ h => h) rfl (by kernel_rfl) ⟨f0, f1, f2, f3, f4⟩ ?_
                      refine heldF_take (v := ?_) (Or.inl ⟨by rfl, ?_⟩) ?_
                      rotate_left 1
                      · intro w' hSw
                        go_simp
                        try with_reducible rfl
                      try simp only [Act.put, List.setIfInBounds_toArray, List.set_cons_zero, List.set_cons_succ]
                      iterate 19 refine heldF_skip ?_
                      refine heldF_nil ?_
                      refine anyH_step1 (i := 1) rfl (by kernel_rfl) (fun K hK => ?_)
                      go_simp
                      refine (specLevel zo zn zcap zs wr.drew (unhide HZD) true HLV).mono ?_
                      rintro e w5 ⟨rfl, g5⟩
                      have HS5 := hide (unhide KEEP _ g5)
                      have HG5 := hide g5
                      clear g5
                      go_simp
                      refine hK.out _ _ (unhide HS5) ?_
                      clear hK K
                      try simp only [Act.put, List.setIfInBounds_toArray, List.set_cons_zero, List.set_cons_succ]
                      refine anyH_take1 (i := 2) (v := ?_) rfl (by kernel_rfl) (fun _ _ _ _ _ h => h) (unhide HS5) (Or.inl ⟨by rfl, ?_⟩) ?_
                      rotate_left 1
                      · intro w' hSw
                        try dsimp only at hSw
                        obtain ⟨z0, z1, z2, z3, z4⟩ := hSw
                        go_simp
                        try with_reducible rfl
                      try simp only [Act.put, List.setIfInBounds_toArray, List.set_cons_zero, List.set_cons_succ]
                      refine anyH_take1 (i := 3) (v := ?_) rfl (by kernel_rfl) (fun _ _ _ _ _ h => h) (unhide HS5) (Or.inl ⟨by rfl, ?_⟩) ?_
                      rotate_left 1
                      · intro w' hSw
                        try dsimp only at hSw
                        obtain ⟨z0, z1, z2, z3, z4⟩ := hSw
                        go_simp
                        try with_reducible rfl
                      try simp only [Act.put, List.setIfInBounds_toArray, List.set_cons_zero, List.set_cons_succ]
                      refine anyH_take1 (i := 4) (v := ?_) rfl (by kernel_rfl) (fun _ _ _ _ _ h => h) (unhide HS5) (Or.inl ⟨by rfl, ?_⟩) ?_
                      rotate_left 1
                      · intro w' hSw
                        try dsimp only at hSw
                        obtain ⟨z0, z1, z2, z3, z4⟩ := hSw
                        go_simp
                        try with_reducible rfl
                      try simp only [Act.put, List.setIfInBounds_toArray, List.set_cons_zero, List.set_cons_succ]
                      refine anyH_take1 (i := 5) (v := ?_) rfl (by kernel_rfl) (fun _ _ _ _ _ h => h) (unhide HS5) (Or.inl ⟨by rfl, ?_⟩) ?_
                      rotate_left 1
                      · intro w' hSw
                        try dsimp only at hSw
                        obtain ⟨z0, z1, z2, z3, z4⟩ := hSw
                        go_simp
                        try with_reducible rfl
                      try simp only [Act.put, List.setIfInBounds_toArray, List.set_cons_zero, List.set_cons_succ]
                      refine anyH_take1 (i := 6) (v := ?_) rfl (by kernel_rfl) (fun _ _ _ _ _ h => h) (unhide HS5) (Or.inl ⟨by rfl, ?_⟩) ?_
                      rotate_left 1
                      · intro w' hSw
                        try dsimp only at hSw
                        obtain ⟨z0, z1, z2, z3, z4⟩ := hSw
                        go_simp
                        try with_reducible rfl
                      try simp only [Act.put, List.setIfInBounds_toArray, List.set_cons_zero, List.set_cons_succ]
                      refine anyH_take1 (i := 7) (v := ?_) rfl (by kernel_rfl) (fun _ _ _ _ _ h => h) (unhide HS5) (Or.inl ⟨by rfl, ?_⟩) ?_
                      rotate_left 1
                      · intro w' hSw
                        try dsimp only at hSw
                        obtain ⟨z0, z1, z2, z3, z4⟩ := hSw
                        go_simp
                        try with_reducible rfl
                      try simp only [Act.put, List.setIfInBounds_toArray, List.set_cons_zero, List.set_cons_succ]
                      refine anyH_take1 (i := 8) (v := ?_) rfl (by kernel_rfl) (fun _ _ _ _ _ h => h) (unhide HS5) (Or.inl ⟨by rfl, ?_⟩) ?_
                      rotate_left 1
                      · intro w' hSw
                        try dsimp only at hSw
                        obtain ⟨z0, z1, z2, z3, z4⟩ := hSw
                        go_simp
                        try with_reducible rfl
                      try simp only [Act.put, List.setIfInBounds_toArray, List.set_cons_zero, List.set_cons_succ]
                      refine anyH_take1 (i := 9) (v := ?_) rfl (by kernel_rfl) (fun _ _ _ _ _ h => h) (unhide HS5) (Or.inl ⟨by rfl, ?_⟩) ?_
                      rotate_left 1
                      · intro w' hSw
                        try dsimp only at hSw
                        obtain ⟨z0, z1, z2, z3, z4⟩ := hSw
                        go_simp
                        try with_reducible rfl
                      try simp only [Act.put, List.setIfInBounds_toArray, List.set_cons_zero, List.set_cons_succ]
                      refine anyH_take1 (i := 10) (v := ?_) rfl (by kernel_rfl) (fun _ _ _ _ _ h => h) (unhide HS5) (Or.inl ⟨by rfl, ?_⟩) ?_
                      rotate_left 1
                      · intro w' hSw
                        try dsimp only at hSw
                        obtain ⟨z0, z1, z2, z3, z4⟩ := hSw
                        go_simp
                        try with_reducible rfl
                      try simp only [Act.put, List.setIfInBounds_toArray, List.set_cons_zero, List.set_cons_succ]
                      refine anyH_take1 (i := 11) (v := ?_) rfl (by kernel_rfl) (fun _ _ _ _ _ h => h) (unhide HS5) (Or.inl ⟨by rfl, ?_⟩) ?_
                      rotate_left 1
                      · intro w' hSw
                        try dsimp only at hSw
                        obtain ⟨z0, z1, z2, z3, z4⟩ := hSw
                        go_simp
                        try with_reducible rfl
                      try simp only [Act.put, List.setIfInBounds_toArray, List.set_cons_zero, List.set_cons_succ]
                      refine anyH_take1 (i := 12) (v := ?_) rfl (by kernel_rfl) (fun _ _ _ _ _ h => h) (unhide HS5) (Or.inl ⟨by rfl, ?_⟩) ?_
                      rotate_left 1
                      · intro w' hSw
                        try dsimp only at hSw
                        obtain ⟨z0, z1, z2, z3, z4⟩ := hSw
                        go_simp
                        try with_reducible rfl
                      try simp only [Act.put, List.setIfInBounds_toArray, List.set_cons_zero, List.set_cons_succ]
                      refine anyH_step1 (i := 13) rfl (by kernel_rfl) (fun K hK => ?_)
                      go_simp
                      refine (specHidden p wd ht rs ao m cap C w5 ((unhide HR).grown (grown_trans (unhide HGW) (grown_trans (grown_drew (World.grownBy.refl wr none)) (unhide HG5)))) (unhide HG) i hlt (kr : Int) (kc : Int) true HPK).mono ?_
                      rintro e w6 ⟨rfl, g6⟩
                      have HS6 := hide (unhide KEEP _ (grown_trans (unhide HG5) g6))
                      have HG6 := hide (grown_trans (unhide HG5) g6)
                      clear g6
                      go_simp
                      refine hK.out _ _ (unhide HS6) ?_
                      clear hK K
                      try simp only [Act.put, List.setIfInBounds_toArray, List.set_cons_zero, List.set_cons_succ]
                      refine anyH_take1 (i := 14) (v := ?_) rfl (by kernel_rfl) (fun _ _ _ _ _ h => h) (unhide HS6) (Or.inl ⟨by rfl, ?_⟩) ?_
                      rotate_left 1
                      · intro w' hSw
                        try dsimp only at hSw
                        obtain ⟨z0, z1, z2, z3, z4⟩ := hSw
                        go_simp
                        try with_reducible rfl
                      try simp only [Act.put, List.setIfInBounds_toArray, List.set_cons_zero, List.set_cons_succ]
                      refine anyH_take1 (i := 15) (v := ?_) rfl (by kernel_rfl) (fun _ _ _ _ _ h => h) (unhide HS6) (Or.inl ⟨by rfl, ?_⟩) ?_
                      rotate_left 1
                      · intro w' hSw
                        try dsimp only at hSw
                        obtain ⟨z0, z1, z2, z3, z4⟩ := hSw
                        go_simp
                        try with_reducible rfl
                      try simp only [Act.put, List.setIfInBounds_toArray, List.set_cons_zero, List.set_cons_succ]
                      refine anyH_step1 (i := 16) rfl (by kernel_rfl) (fun K hK => ?_)
                      go_simp
                      refine (specZero zo zn zcap zs w6 ((unhide HZD).grown (unhide HG6)) hzl false HZB).mono ?_
                      rintro e w7 ⟨rfl, rfl⟩
                      go_simp
                      refine hK.out _ _ (unhide HS6) ?_
                      clear hK K
                      try simp only [Act.put, List.setIfInBounds_toArray, List.set_cons_zero, List.set_cons_succ]
                      refine anyH_take1 (i := 17) (v := ?_) rfl (by kernel_rfl) (fun _ _ _ _ _ h => h) (unhide HS6) (Or.inl ⟨by rfl, ?_⟩) ?_
                      rotate_left 1
                      · intro w' hSw
                        try dsimp only at hSw
                        obtain ⟨z0, z1, z2, z3, z4⟩ := hSw
                        go_simp
                        try with_reducible rfl
                      try simp only [Act.put, List.setIfInBounds_toArray, List.set_cons_zero, List.set_cons_succ]
                      refine anyH_take1 (i := 18) (v := ?_) rfl (by kernel_rfl) (fun _ _ _ _ _ h => h) (unhide HS6) (Or.inl ⟨by rfl, ?_⟩) ?_
                      rotate_left 1
                      · intro w' hSw
                        try dsimp only at hSw
                        obtain ⟨z0, z1, z2, z3, z4⟩ := hSw
                        go_simp
                        try with_reducible rfl
                      try simp only [Act.put, List.setIfInBounds_toArray, List.set_cons_zero, List.set_cons_succ]
                      refine anyH_take1 (i := 19) (v := ?_) rfl (by kernel_rfl) (fun _ _ _ _ _ h => h) (unhide HS6) (Or.inl ⟨by rfl, ?_⟩) ?_
                      rotate_left 1
                      · intro w' hSw
                        try dsimp only at hSw
                        obtain ⟨z0, z1, z2, z3, z4⟩ := hSw
                        go_simp
                        try with_reducible rfl
                      try simp only [Act.put, List.setIfInBounds_toArray, List.set_cons_zero, List.set_cons_succ]
                      refine wpAnyH_done (by kernel_rfl) (NoPanic.normal ?_) _
                      have HFIN := hide (grown_trans (unhide HGW) (grown_trans (grown_drew (World.grownBy.refl wr none)) (unhide HG6)))
                      clear HGW
                      go_wp2
                      go_ret
                      exact ⟨rfl, unhide HFIN⟩
                    | true =>
                      have HA3 : Hid ((List.range (k + 1)).all g = true) := by unfold Hid; rw [hak, unhide hka, hgk, blockB, unhide HLV, unhide HZB]; rfl
                      clear hak hnk hgk
                      go_wp2
                      refine wp_region_noPanic ?_
                      refine wp_region_raw (fun w' => w'.cell? ⟨w.heap.size, 0, none⟩ = some (.int .i64 p) ∧ w'.cell? ⟨w.heap.size, 1, none⟩ = some (.int .i64 wd) ∧ w'.cell? ⟨w.heap.size, 2, none⟩ = some (.int .i64 ht) ∧ w'.cell? ⟨w.heap.size, 3, none⟩ = some (.int .i64 rs) ∧ w'.cell? ⟨w.heap.size, 4, none⟩ = some (.slice ao m cap)) [true, false, false, false, false, false, false, false, false, false, false, false, false, false, false, false, false, false, false, false] (by kernel_rfl) (fun _ _ _ _ _ h => h) rfl (by kernel_rfl) ⟨f0, f1, f2, f3, f4⟩ ?_
                      refine heldF_take (v := ?_) (Or.inl ⟨by rfl, ?_⟩) ?_
                      rotate_left 1
                      · intro w' hSw
                        go_simp
                        try with_reducible rfl
                      try simp only [Act.put, List.setIfInBounds_toArray, List.set_cons_zero, List.set_cons_succ]
                      iterate 19 refine heldF_skip ?_
                      refine heldF_nil ?_
                      refine anyH_step1 (i := 1) rfl (by kernel_rfl) (fun K hK => ?_)
                      go_simp
                      refine (specLevel zo zn zcap zs wr.drew (unhide HZD) true HLV).mono ?_
                      rintro e w5 ⟨rfl, g5⟩
                      have HS5 := hide (unhide KEEP _ g5)
                      have HG5 := hide g5
                      clear g5
                      go_simp
                      refine hK.out _ _ (unhide HS5) ?_
                      clear hK K
                      try simp only [Act.put, List.setIfInBounds_toArray, List.set_cons_zero, List.set_cons_succ]
                      refine anyH_take1 (i := 2) (v := ?_) rfl (by kernel_rfl) (fun _ _ _ _ _ h => h) (unhide HS5) (Or.inl ⟨by rfl, ?_⟩) ?_
                      rotate_left 1
                      · intro w' hSw
                        try dsimp only at hSw
                        obtain ⟨z0, z1, z2, z3, z4⟩ := hSw
                        go_simp
                        try with_reducible rfl
                      try simp only [Act.put, List.setIfInBounds_toArray, List.set_cons_zero, List.set_cons_succ]
                      refine anyH_take1 (i := 3) (v := ?_) rfl (by kernel_rfl) (fun _ _ _ _ _ h => h) (unhide HS5) (Or.inl ⟨by rfl, ?_⟩) ?_
                      rotate_left 1
                      · intro w' hSw
                        try dsimp only at hSw
                        obtain ⟨z0, z1, z2, z3, z4⟩ := hSw
                        go_simp
                        try with_reducible rfl
                      try simp only [Act.put, List.setIfInBounds_toArray, List.set_cons_zero, List.set_cons_succ]
                      refine anyH_take1 (i := 4) (v := ?_) rfl (by kernel_rfl) (fun _ _ _ _ _ h => h) (unhide HS5) (Or.inl ⟨by rfl, ?_⟩) ?_
                      rotate_left 1
                      · intro w' hSw
                        try dsimp only at hSw
                        obtain ⟨z0, z1, z2, z3, z4⟩ := hSw
                        go_simp
                        try with_reducible rfl
                      try simp only [Act.put, List.setIfInBounds_toArray, List.set_cons_zero, List.set_cons_succ]
                      refine anyH_take1 (i := 5) (v := ?_) rfl (by kernel_rfl) (fun _ _ _ _ _ h => h) (unhide HS5) (Or.inl ⟨by rfl, ?_⟩) ?_
                      rotate_left 1
                      · intro w' hSw
                        try dsimp only at hSw
                        obtain ⟨z0, z1, z2, z3, z4⟩ := hSw
                        go_simp
                        try with_reducible rfl
                      try simp only [Act.put, List.setIfInBounds_toArray, List.set_cons_zero, List.set_cons_succ]
                      refine anyH_take1 (i := 6) (v := ?_) rfl (by kernel_rfl) (fun _ _ _ _ _ h => h) (unhide HS5) (Or.inl ⟨by rfl, ?_⟩) ?_
                      rotate_left 1
                      · intro w' hSw
                        try dsimp only at hSw
                        obtain ⟨z0, z1, z2, z3, z4⟩ := hSw
                        go_simp
                        try with_reducible rfl
                      try simp only [Act.put, List.setIfInBounds_toArray, List.set_cons_zero, List.set_cons_succ]
                      refine anyH_take1 (i := 7) (v := ?_) rfl (by kernel_rfl) (fun _ _ _ _ _ h => h) (unhide HS5) (Or.inl ⟨by rfl, ?_⟩) ?_
                      rotate_left 1
                      · intro w' hSw
                        try dsimp only at hSw
                        obtain ⟨z0, z1, z2, z3, z4⟩ := hSw
                        go_simp
                        try with_reducible rfl
                      try simp only [Act.put, List.setIfInBounds_toArray, List.set_cons_zero, List.set_cons_succ]
                      refine anyH_take1 (i := 8) (v := ?_) rfl (by kernel_rfl) (fun _ _ _ _ _ h => h) (unhide HS5) (Or.inl ⟨by rfl, ?_⟩) ?_
                      rotate_left 1
                      · intro w' hSw
                        try dsimp only at hSw
                        obtain ⟨z0, z1, z2, z3, z4⟩ := hSw
                        go_simp
                        try with_reducible rfl
                      try simp only [Act.put, List.setIfInBounds_toArray, List.set_cons_zero, List.set_cons_succ]
                      refine anyH_take1 (i := 9) (v := ?_) rfl (by kernel_rfl) (fun _ _ _ _ _ h => h) (unhide HS5) (Or.inl ⟨by rfl, ?_⟩) ?_
                      rotate_left 1
                      · intro w' hSw
                        try dsimp only at hSw
                        obtain ⟨z0, z1, z2, z3, z4⟩ := hSw
                        go_simp
                        try with_reducible rfl
                      try simp only [Act.put, List.setIfInBounds_toArray, List.set_cons_zero, List.set_cons_succ]
                      refine anyH_take1 (i := 10) (v := ?_) rfl (by kernel_rfl) (fun _ _ _ _ _ h => h) (unhide HS5) (Or.inl ⟨by rfl, ?_⟩) ?_
                      rotate_left 1
                      · intro w' hSw
                        try dsimp only at hSw
                        obtain ⟨z0, z1, z2, z3, z4⟩ := hSw
                        go_simp
                        try with_reducible rfl
                      try simp only [Act.put, List.setIfInBounds_toArray, List.set_cons_zero, List.set_cons_succ]
                      refine anyH_take1 (i := 11) (v := ?_) rfl (by kernel_rfl) (fun _ _ _ _ _ h => h) (unhide HS5) (Or.inl ⟨by rfl, ?_⟩) ?_
                      rotate_left 1
                      · intro w' hSw
                        try dsimp only at hSw
                        obtain ⟨z0, z1, z2, z3, z4⟩ := hSw
                        go_simp
                        try with_reducible rfl
                      try simp only [Act.put, List.setIfInBounds_toArray, List.set_cons_zero, List.set_cons_succ]
                      refine anyH_take1 (i := 12) (v := ?_) rfl (by kernel_rfl) (fun _ _ _ _ _ h => h) (unhide HS5) (Or.inl ⟨by rfl, ?_⟩) ?_
                      rotate_left 1
                      · intro w' hSw
                        try dsimp only at hSw
                        obtain ⟨z0, z1, z2, z3, z4⟩ := hSw
                        go_simp
                        try with_reducible rfl
                      try simp only [Act.put, List.setIfInBounds_toArray, List.set_cons_zero, List.set_cons_succ]
                      refine anyH_step1 (i := 13) rfl (by kernel_rfl) (fun K hK => ?_)
                      go_simp
                      refine (specHidden p wd ht rs ao m cap C w5 ((unhide HR).grown (grown_trans (unhide HGW) (grown_trans (grown_drew (World.grownBy.refl wr none)) (unhide HG5)))) (unhide HG) i hlt (kr : Int) (kc : Int) true HPK).mono ?_
                      rintro e w6 ⟨rfl, g6⟩
                      have HS6 := hide (unhide KEEP _ (grown_trans (unhide HG5) g6))
                      have HG6 := hide (grown_trans (unhide HG5) g6)
                      clear g6
                      go_simp
                      refine hK.out _ _ (unhide HS6) ?_
                      clear hK K
                      try simp only [Act.put, List.setIfInBounds_toArray, List.set_cons_zero, List.set_cons_succ]
                      refine anyH_take1 (i := 14) (v := ?_) rfl (by kernel_rfl) (fun _ _ _ _ _ h => h) (unhide HS6) (Or.inl ⟨by rfl, ?_⟩) ?_
                      rotate_left 1
                      · intro w' hSw
                        try dsimp only at hSw
                        obtain ⟨z0, z1, z2, z3, z4⟩ := hSw
                        go_simp
                        try with_reducible rfl
                      try simp only [Act.put, List.setIfInBounds_toArray, List.set_cons_zero, List.set_cons_succ]
                      refine anyH_take1 (i := 15) (v := ?_) rfl (by kernel_rfl) (fun _ _ _ _ _ h => h) (unhide HS6) (Or.inl ⟨by rfl, ?_⟩) ?_
                      rotate_left 1
                      · intro w' hSw
                        try dsimp only at hSw
                        obtain ⟨z0, z1, z2, z3, z4⟩ := hSw
                        go_simp
                        try with_reducible rfl
                      try simp only [Act.put, List.setIfInBounds_toArray, List.set_cons_zero, List.set_cons_succ]
                      refine anyH_step1 (i := 16) rfl (by kernel_rfl) (fun K hK => ?_)
                      go_simp
                      refine (specZero zo zn zcap zs w6 ((unhide HZD).grown (unhide HG6)) hzl true HZB).mono ?_
                      rintro e w7 ⟨rfl, rfl⟩
                      go_simp
                      refine hK.out _ _ (unhide HS6) ?_
                      clear hK K
                      try simp only [Act.put, List.setIfInBounds_toArray, List.set_cons_zero, List.set_cons_succ]
                      refine anyH_take1 (i := 17) (v := ?_) rfl (by kernel_rfl) (fun _ _ _ _ _ h => h) (unhide HS6) (Or.inl ⟨by rfl, ?_⟩) ?_
                      rotate_left 1
                      · intro w' hSw
                        try dsimp only at hSw
                        obtain ⟨z0, z1, z2, z3, z4⟩ := hSw
                        go_simp
                        try with_reducible rfl
                      try simp only [Act.put, List.setIfInBounds_toArray, List.set_cons_zero, List.set_cons_succ]
                      refine anyH_take1 (i := 18) (v := ?_) rfl (by kernel_rfl) (fun _ _ _ _ _ h => h) (unhide HS6) (Or.inl ⟨by rfl, ?_⟩) ?_
                      rotate_left 1
                      · intro w' hSw
                        try dsimp only at hSw
                        obtain ⟨z0, z1, z2, z3, z4⟩ := hSw
                        go_simp
                        try with_reducible rfl
                      try simp only [Act.put, List.setIfInBounds_toArray, List.set_cons_zero, List.set_cons_succ]
                      refine anyH_take1 (i := 19) (v := ?_) rfl (by kernel_rfl) (fun _ _ _ _ _ h => h) (unhide HS6) (Or.inl ⟨by rfl, ?_⟩) ?_
                      rotate_left 1
                      · intro w' hSw
                        try dsimp only at hSw
                        obtain ⟨z0, z1, z2, z3, z4⟩ := hSw
                        go_simp
                        try with_reducible rfl
                      try simp only [Act.put, List.setIfInBounds_toArray, List.set_cons_zero, List.set_cons_succ]
                      refine wpAnyH_done (by kernel_rfl) (NoPanic.normal ?_) _
                      have HFIN := hide (grown_trans (unhide hgw) (grown_trans (grown_drew (World.grownBy.refl wr none)) (unhide HG6)))
                      clear HGW hgw
                      go_wp2
                      go_roundw
                      case rel => exact ⟨k + 1, by omega, by go_num, HA3, HFIN⟩
                      case measure => simp [intOf]; omega
              · obtain rfl : k = pl := by omega
                have HA2 : Hid ((List.range (i + 1)).all f = true) := by
                  unfold Hid
                  rw [unhide HAL, unhide ha, unhide HFI, unhide hka]; simp
                clear hka d0 p0
                go_wp2
                go_roundw
                case rel => exact ⟨i + 1, by omega, by go_num, HA2, hgw⟩
                case measure => simp [intOf]; omega
          · have hne2 : ((pl : Int) != (bn : Int)) = true := by simp; omega
            have e : b = false := by
              rw [unhide HBE2]
              refine unhide HNO ?_
              rw [unhide HFI, decide_eq_false hpn]; rfl
            subst e
            go_wp2
            go_ret
            exact ⟨rfl, unhide HGB⟩
        · obtain rfl : i = m := by omega
          have e : b = true := by rw [unhide HBE2]; exact unhide ha
          subst e
          go_wp2
          go_ret
          exact ⟨rfl, unhide HGW⟩
    · have hne : ((m : Int) != (n : Int)) = true := by simp; omega
      have e : b = false := by rw [unhide HBE, decide_eq_false hmn]; rfl
      subst e
      go_enter Try.func14, Try.ntmps14
      go_wp2_with fail
      rw [unhide HW]
      refine (unhide HFO).mono ?_
      rintro e w1 ⟨rfl, g1⟩
      have HG1 := hide (grown_trans (unhide HG0) g1)
      have c4 := (frameCells' (grown_atT g1 (unhide B0) (by simp))).2.2.2.2
      have d0 : w1.cell? ⟨w.heap.size + 1, 0, none⟩ = some (.slice xo m xc) := by rw [cell_of_row w1 _ 0 _ _ (0, 0) (grown_atT g1 (unhide B1) (by simp))]; rfl
      clear g1 HFO
      go_wp2
      go_ret
      exact ⟨rfl, unhide HG1⟩

end Go.Proofs.Ytibgldanmhckiaa

namespace Go.Proofs.Ytibgldanmhckiaa
open Go.RowKit

theorem info_i9 : (Try.prog.info? 3).map (fun i => (i.zero, i.size, i.bytes)) = some (some (.int .i64 0), 1, 8) := by kernel_rfl

theorem append_rdI {w : World} {ops : Array Oper} {rest : List Oper} {o : Oper} {a : Act} {Q : Exit → Act → World → Prop} (hgd : o.guard = none) (s x : Operand)
    (ho : o.op = .call { callee := .builtin .append, args := #[s, x], argTypes := #[32, 32] })
    (base : Nat) (v : Value) (xs : List Int) (hs : a.eval s = v) (hown : w.ownsRow base 3 1 v xs.length (xs.map (Value.int .i64)))
    (ad : Addr) (m c : Nat) (zs : List Int) (hx : a.eval x = .slice (some ad) m c) (hr : Rd .i64 w (some ad) m zs)
    (hb : xs.length + m ≤ 1000000) (hbase : base ≤ w.heap.size) (R : List Int) (hR : xs ++ zs = R)
    (h : ∀ v' w', w'.ownsRow base 3 1 v' R.length (R.map (Value.int .i64)) → w.grownBy w' v.ownBlock → wpList Try.prog ops Q rest (a.put o.dst v') w') :
    wpList Try.prog ops Q (o :: rest) a w := by
  subst hR
  obtain ⟨i0, hi, hz0, hz1, hz2⟩ := info_parts info_i9
  refine wpList_append_own _ hgd s x 32 ho base 3 i0 (.int .i64 0) 1 8 Try.underlying32 hi hz0 hz1 hz2 rfl (by decide) v xs.length _ hs hown ad m c (zs.map (Value.int .i64)) hx (by simp [hr.1]) (rd_newsI hr) ?_ (by unfold maxLen; omega) (by omega) hbase (fun v' w' h1 h2 _ => h v' w' (by rw [List.map_append, List.length_append, hr.1]; exact h1) h2)
  intro u hu
  obtain ⟨y, _, rfl⟩ := List.mem_map.1 hu
  rfl

end Go.Proofs.Ytibgldanmhckiaa

namespace Go.Proofs.Ytibgldanmhckiaa
open Go.RowKit

theorem ok_plane {wd ht : Int} {n : Nat} {C : Nat → Nat → Int} {X : List (List (List Int))} (h : coefsOkB wd ht n C X = true) (c : Nat) (hc : c < n) : ∃ hX : c < X.length, X[c].length = bwG wd n C c * bhG ht n C c ∧ ∀ k (hk : k < X[c].length), blockB (hidB (bwG wd n C c) (nwG wd n C c) (nhG ht n C c) k) X[c][k] = true := by
  unfold coefsOkB at h
  rw [Bool.and_eq_true] at h
  have hl : X.length = n := of_decide_eq_true h.1
  have hX : c < X.length := by omega
  have hp := List.all_eq_true.1 h.2 c (List.mem_range.2 hX)
  have e : X.getD c [] = X[c] := by simp [hX]
  rw [e] at hp
  unfold planeB at hp
  rw [Bool.and_eq_true] at hp
  refine ⟨hX, of_decide_eq_true hp.1, fun k hk => ?_⟩
  have hb := List.all_eq_true.1 hp.2 k (List.mem_range.2 hk)
  have e2 : X[c].getD k [] = X[c][k] := by simp [hk]
  rw [e2] at hb
  exact hb
theorem lev_len {lo hi : Int} {zs : List Int} (h : levB lo hi zs = true) : zs.length = 64 := by
  unfold levB at h
  rw [Bool.and_eq_true] at h
  exact of_decide_eq_true h.1
theorem block_len {hid : Bool} {zs : List Int} (h : blockB hid zs = true) : zs.length = 64 := by
  unfold blockB at h
  rw [Bool.and_eq_true] at h
  exact lev_len h.1
theorem place_in {wd ht : Int} {n : Nat} {C : Nat → Nat → Int} {co ro cl : Int} {k : Nat} (h : placeO wd ht n C co ro cl = some k) : ∃ c r l : Nat, co = (c : Int) ∧ ro = (r : Int) ∧ cl = (l : Int) ∧ c < n ∧ r < bhG ht n C c ∧ l < bwG wd n C c ∧ k = r * bwG wd n C c + l ∧ k < bwG wd n C c * bhG ht n C c := by
  unfold placeO at h
  split at h
  · rename_i h1
    obtain ⟨c, rfl⟩ := Int.eq_ofNat_of_zero_le h1.1
    rw [Int.toNat_natCast] at h
    split at h
    · rename_i h2
      obtain ⟨r, rfl⟩ := Int.eq_ofNat_of_zero_le h2.1.1
      obtain ⟨l, rfl⟩ := Int.eq_ofNat_of_zero_le h2.2.1
      rw [Int.toNat_natCast, Int.toNat_natCast] at h
      have hk : r * bwG wd n C c + l = k := Option.some.inj h
      have hr : r < bhG ht n C c := by omega
      have hl : l < bwG wd n C c := by omega
      refine ⟨c, r, l, rfl, rfl, rfl, by omega, hr, hl, hk.symm, ?_⟩
      have hm : (r + 1) * bwG wd n C c ≤ bhG ht n C c * bwG wd n C c := Nat.mul_le_mul_right _ hr
      rw [Nat.add_mul, Nat.one_mul] at hm
      rw [Nat.mul_comm (bwG wd n C c)]
      omega
    · cases h
  · cases h

set_option maxRecDepth 20000 in
set_option maxHeartbeats 3200000 in
theorem specBlockAt (p wd ht rs : Int) (ao : Option Addr) (n cap : Nat) (C : Nat → Nat → Int) (v : Value) (X : List (List (List Int))) (co ro cl : Int) (w : World) (hr : RdC w ao n C) (hx : Rd3 w v X) (hs : szCo X ≤ 1048576) (fb : Bool) (HFB : Hid (frameB p wd ht rs n C = fb)) (L : List Int) (HL : Hid (blockAtF fb wd ht n C X co ro cl = L)) :
    Calls Try.prog 29 #[.agg #[.int .i64 p, .int .i64 wd, .int .i64 ht, .int .i64 rs, .slice ao n cap], .agg #[v], .agg #[.int .i64 co, .int .i64 ro, .int .i64 cl]] w fun e w' => ∃ so sc, e = .returned (.slice so L.length sc) ∧ w'.ownsRow w.heap.size 3 1 (.slice so L.length sc) L.length (L.map (Value.int .i64)) ∧ w.grownBy w' none := by
  obtain ⟨xo, xc, rfl, hel⟩ := id hx
  obtain ⟨m, HM⟩ : ∃ m, Hid (X.length = m) := ⟨_, rfl⟩
  have HX := hide hx
  rw [unhide HM] at HX ⊢
  obtain ⟨W3, hW3⟩ : ∃ W3, (((w.alloc (.cells #[.int .i64 p, .int .i64 wd, .int .i64 ht, .int .i64 rs, .slice ao n cap] 26)).alloc (.cells #[.slice xo m xc] 29)).alloc (.cells #[.int .i64 co, .int .i64 ro, .int .i64 cl] 31)) = W3 := ⟨_, rfl⟩
  have G0 : w.grownBy W3 none := by rw [← hW3]; exact grown_alloc (grown_alloc (grown_alloc (World.grownBy.refl _ _) _) _) _
  have B0 : Hid (W3.heap[w.heap.size]? = some (.cells #[.int .i64 p, .int .i64 wd, .int .i64 ht, .int .i64 rs, .slice ao n cap] 26 (0, 0))) := by
    unfold Hid
    rw [← hW3, Below.heap_alloc _ _ _ (by simp; omega), Below.heap_alloc _ _ _ (by simp)]
    exact heap_alloc_new w _
  have B1 : Hid (W3.heap[w.heap.size + 1]? = some (.cells #[.slice xo m xc] 29 (0, 0))) := by
    unfold Hid
    rw [← hW3, Below.heap_alloc _ _ _ (by simp)]
    have := heap_alloc_new (w.alloc (.cells #[.int .i64 p, .int .i64 wd, .int .i64 ht, .int .i64 rs, .slice ao n cap] 26)) (.cells #[.slice xo m xc] 29)
    simpa using this
  have B2 : Hid (W3.heap[w.heap.size + 1 + 1]? = some (.cells #[.int .i64 co, .int .i64 ro, .int .i64 cl] 31 (0, 0))) := by
    unfold Hid
    rw [← hW3]
    have := heap_alloc_new ((w.alloc (.cells #[.int .i64 p, .int .i64 wd, .int .i64 ht, .int .i64 rs, .slice ao n cap] 26)).alloc (.cells #[.slice xo m xc] 29)) (.cells #[.int .i64 co, .int .i64 ro, .int .i64 cl] 31)
    simpa using this
  obtain ⟨ok, HOK⟩ : ∃ ok, Hid (coefsOkF fb wd ht n C X = ok) := ⟨_, rfl⟩
  have HCO := hide (specCoefsOk p wd ht rs ao n cap C _ X W3 (hr.grown G0) (st3 _ _ _ _ (unhide HX) G0) hs fb ok HFB HOK)
  have HW := hide hW3
  have HG0 := hide G0
  have HR := hide hr
  have HEL := hide hel
  have HNIL : Hid (L = [] → ∀ wz : World, w.grownBy wz none → (wz.alloc (.cells #[] 3)).ownsRow w.heap.size 3 1 (.slice (some ⟨wz.heap.size, 0, none⟩) L.length 0) L.length (L.map (Value.int .i64)) ∧ w.grownBy (wz.alloc (.cells #[] 3)) none) := fun e wz g => by
    subst e
    exact ⟨own_base (World.ownsRow_lit wz #[] 0 (Nat.le_refl _) (by unfold maxLen; omega) rfl) g.size, grown_alloc g _⟩
  clear hW3 G0 hr hx hel hs
  cases ok with
  | false =>
    have e : L = [] := by rw [← unhide HL, blockAtF, unhide HOK]; rfl
    subst e
    go_enter Try.func29, Try.ntmps29
    go_wp2_with fail
    rw [unhide HW]
    refine (unhide HCO).mono ?_
    rintro e w1 ⟨rfl, g1⟩
    have HF := hide (unhide HNIL (by trivial) w1 (grown_trans (unhide HG0) g1))
    clear g1 HCO HNIL
    go_wp2
    go_ret
    exact ⟨_, _, rfl, unhide HF⟩
  | true =>
    have hfb : fb = true := by
      cases fb with
      | true => rfl
      | false => have := unhide HOK; cases this
    subst hfb
    have hg := geo_of (unhide HFB)
    have HG := hide hg
    have hokb : coefsOkB wd ht n C X = true := unhide HOK
    have HKB := hide hokb
    clear hg hokb
    cases hpl : placeO wd ht n C co ro cl with
    | none =>
      have e : L = [] := by rw [← unhide HL, blockAtF, unhide HOK, hpl]; rfl
      subst e
      have HPL : Hid ((match placeO wd ht n C co ro cl with | some k => ((k : Int), true) | none => (0, false)) = (0, false)) := by unfold Hid; rw [hpl]
      clear hpl
      go_enter Try.func29, Try.ntmps29
      go_wp2_with fail
      rw [unhide HW]
      refine (unhide HCO).mono ?_
      rintro e w1 ⟨rfl, g1⟩
      have HG1 := hide (grown_trans (unhide HG0) g1)
      obtain ⟨c0, c1, c2, c3, c4⟩ := frameCells' (grown_atT g1 (unhide B0) (by simp))
      have hb2 := grown_atT g1 (unhide B2) (by simp)
      have d0 : w1.cell? ⟨w.heap.size + 1 + 1, 0, none⟩ = some (.int .i64 co) := by rw [cell_of_row w1 _ 0 _ _ (0, 0) hb2]; rfl
      have d1 : w1.cell? ⟨w.heap.size + 1 + 1, 1, none⟩ = some (.int .i64 ro) := by rw [cell_of_row w1 _ 1 _ _ (0, 0) hb2]; rfl
      have d2 : w1.cell? ⟨w.heap.size + 1 + 1, 2, none⟩ = some (.int .i64 cl) := by rw [cell_of_row w1 _ 2 _ _ (0, 0) hb2]; rfl
      clear g1 HCO hb2
      go_wp2_with fail
      refine (specPlace p wd ht rs ao n cap C w1 ((unhide HR).grown (unhide HG1)) (unhide HG) co ro cl 0 false HPL).mono ?_
      rintro e w2 ⟨rfl, g2⟩
      have HF := hide (unhide HNIL (by trivial) w2 (grown_trans (unhide HG1) g2))
      clear g2 c0 c1 c2 c3 c4 d0 d1 d2 HNIL
      go_wp2
      go_ret
      exact ⟨_, _, rfl, unhide HF⟩
    | some k =>
      have HPL : Hid ((match placeO wd ht n C co ro cl with | some k => ((k : Int), true) | none => (0, false)) = ((k : Int), true)) := by unfold Hid; rw [hpl]
      have hLE : L = (X.getD co.toNat []).getD k [] := by rw [← unhide HL, blockAtF, unhide HOK, hpl]; rfl
      obtain ⟨c, r, l, rfl, rfl, rfl, hcn, -, -, -, hkb⟩ := place_in hpl
      obtain ⟨hX, hXl, hXb⟩ := ok_plane (unhide HKB) c hcn
      have hkX : k < X[c].length := by omega
      have h64 := block_len (hXb k hkX)
      have hLE2 : L = X[c][k] := by rw [hLE, Int.toNat_natCast]; simp [hX, hkX]
      obtain ⟨pb, poff, pu, rfl, pc0, pq⟩ := unhide HEL c hX
      obtain ⟨po, pcap, rfl, pel⟩ := pq
      obtain ⟨kb, koff, ku, rfl, kc0, kq⟩ := pel k hkX
      obtain ⟨zo, zcap, rfl, zr⟩ := kq
      generalize X[c][k] = zs at *
      subst hLE2
      have hcm : (c : Int) < (m : Int) := by have := unhide HM; omega
      obtain ⟨pl, HPLN⟩ : ∃ pl, Hid (X[c].length = pl) := ⟨_, hide rfl⟩
      rw [unhide HPLN] at pc0 hkX
      have hkI : (k : Int) < (pl : Int) := by omega
      obtain ⟨zb, zoff, hzo, _⟩ := zr.2 0 (by omega)
      subst hzo
      have HZR := hide zr
      have H64 := hide h64
      rw [h64] at kc0
      clear hpl hLE hXl hXb pel zr h64 hkb
      go_enter Try.func29, Try.ntmps29
      go_wp2_with fail
      rw [unhide HW]
      refine (unhide HCO).mono ?_
      rintro e w1 ⟨rfl, g1⟩
      have HG1 := hide (grown_trans (unhide HG0) g1)
      have HB1 := hide (grown_atT g1 (unhide B1) (by simp))
      have HB2 := hide (grown_atT g1 (unhide B2) (by simp))
      obtain ⟨c0, c1, c2, c3, c4⟩ := frameCells' (grown_atT g1 (unhide B0) (by simp))
      have d0 : w1.cell? ⟨w.heap.size + 1 + 1, 0, none⟩ = some (.int .i64 (c : Int)) := by rw [cell_of_row w1 _ 0 _ _ (0, 0) (unhide HB2)]; rfl
      have d1 : w1.cell? ⟨w.heap.size + 1 + 1, 1, none⟩ = some (.int .i64 (r : Int)) := by rw [cell_of_row w1 _ 1 _ _ (0, 0) (unhide HB2)]; rfl
      have d2 : w1.cell? ⟨w.heap.size + 1 + 1, 2, none⟩ = some (.int .i64 (l : Int)) := by rw [cell_of_row w1 _ 2 _ _ (0, 0) (unhide HB2)]; rfl
      clear g1 HCO
      go_wp2_with fail
      refine (specPlace p wd ht rs ao n cap C w1 ((unhide HR).grown (unhide HG1)) (unhide HG) c r l k true HPL).mono ?_
      rintro e w2 ⟨rfl, g2⟩
      have HG2 := hide (grown_trans (unhide HG1) g2)
      have hb1 := grown_atT g2 (unhide HB1) (by simp)
      have hb2 := grown_atT g2 (unhide HB2) (by simp)
      clear c0 c1 c2 c3 c4 d0 d1 d2
      obtain ⟨W4, HW4⟩ : ∃ W4, Hid (w2.alloc (.cells #[] 3) = W4) := ⟨_, rfl⟩
      have g4 : w2.grownBy W4 none := by rw [← unhide HW4]; exact World.grownBy_alloc _ _ _
      have HG4 := hide (grown_trans (unhide HG2) g4)
      have HO4 : Hid (W4.ownsRow w.heap.size 3 1 (.slice (some ⟨w2.heap.size, 0, none⟩) 0 0) ([] : List Int).length (([] : List Int).map (Value.int .i64))) := by
        unfold Hid
        rw [← unhide HW4]
        exact own_base (World.ownsRow_lit w2 #[] 0 (Nat.le_refl _) (by unfold maxLen; omega) rfl) (unhide HG2).size
      have a0 : W4.cell? ⟨w.heap.size + 1, 0, none⟩ = some (.slice (some ⟨pb, poff, none⟩) m xc) := by rw [cell_of_row W4 _ 0 _ _ (0, 0) (grown_atT g4 hb1 (by simp))]; rfl
      have a1 : W4.cell? ⟨w.heap.size + 1 + 1, 0, none⟩ = some (.int .i64 (c : Int)) := by rw [cell_of_row W4 _ 0 _ _ (0, 0) (grown_atT g4 hb2 (by simp))]; rfl
      have a2 := (unhide HG4).cell pc0 (by simp)
      have a3 := (unhide HG4).cell kc0 (by simp)
      have HZ4 := hide ((unhide HZR).grown (unhide HG4))
      have e0 : (w2.alloc (.cells #[] 3)).cell? ⟨w.heap.size + 1, 0, none⟩ = some (.slice (some ⟨pb, poff, none⟩) m xc) := by rw [unhide HW4]; exact a0
      have e1 : (w2.alloc (.cells #[] 3)).cell? ⟨w.heap.size + 1 + 1, 0, none⟩ = some (.int .i64 (c : Int)) := by rw [unhide HW4]; exact a1
      have e2 := a2
      have e3 := a3
      rw [← unhide HW4] at e2 e3
      have hL64 : ([] : List Int).length + L.length ≤ 1000000 := by have := unhide H64; simp; omega
      have HL6 := hide hL64
      have HSZ4 : Hid (w.heap.size ≤ W4.heap.size) := (unhide HG4).size
      rw [unhide H64] at HZ4
      clear a0 a1 a2 a3 hL64 g2 g4 hb1 hb2 pc0 kc0 HZR
      go_wp2_with (at_builtin; rw [unhide HW4]; refine append_rdI rfl _ _ rfl w.heap.size (.slice (some ⟨w2.heap.size, 0, none⟩) 0 0) [] rfl (unhide HO4) ⟨zb, zoff, none⟩ 64 zcap L rfl (unhide HZ4) (by simp) (unhide HSZ4) L (List.nil_append L) ?_)
      intro v5 w5 o5 g5
      obtain ⟨so5, sc5, rfl⟩ := own_form o5
      have HO5 := hide o5
      have HG5 : Hid (w.grownBy w5 none) := grown_new (unhide HG4) g5 (fun g e => ((unhide HO4).lt g e).1)
      clear o5 g5 HO4 HG4 e0 e1 e2 e3
      go_wp2
      go_ret
      exact ⟨so5, sc5, rfl, unhide HO5, unhide HG5⟩

end Go.Proofs.Ytibgldanmhckiaa

namespace Go.Proofs.Ytibgldanmhckiaa
open Go.RowKit

theorem sumN_le {α : Type} (f : α → Nat) (b : Nat) : ∀ L : List α, (∀ a ∈ L, f a ≤ b) → sumN (L.map f) ≤ L.length * b
  | [], _ => by simp [sumN]
  | a :: r, h => by
    have h1 := h a (by simp)
    have h2 := sumN_le f b r (fun x hx => h x (by simp [hx]))
    simp only [List.map_cons, sumN, List.length_cons, Nat.add_mul, Nat.one_mul]
    omega
theorem szR_le {α : Type} (sz : α → Nat) (b : Nat) (L : List α) (h : ∀ a ∈ L, sz a ≤ b) : szR sz L ≤ L.length * (b + 1) := by
  have := sumN_le sz b L h
  unfold szR
  rw [Nat.mul_add, Nat.mul_one]
  omega
theorem sumN_mono {α : Type} {f g : α → Nat} (h : ∀ a, f a ≤ g a) : ∀ L : List α, sumN (L.map f) ≤ sumN (L.map g)
  | [] => Nat.le_refl _
  | a :: r => by simp only [List.map_cons, sumN]; have := h a; have := sumN_mono h r; omega
theorem cnt_sz (X : List (List (List Int))) : cntCo X ≤ szCo X := by
  have h1 : ∀ P : List (List Int), cntR lenI P ≤ szR lenI P := fun P => by unfold cntR szR; omega
  have h2 := sumN_mono h1 X
  unfold cntCo szCo
  unfold cntR at h2 ⊢
  unfold szR at h2 ⊢
  omega
/-- Few planes of few blocks of 64. -/
def Shape (X : List (List (List Int))) : Prop := X.length ≤ 4 ∧ ∀ P ∈ X, P.length ≤ 1089 ∧ ∀ B ∈ P, B.length ≤ 64
theorem shape_sz {X : List (List (List Int))} (h : Shape X) : szCo X ≤ 283144 := by
  have h1 : ∀ P ∈ X, szR lenI P ≤ 70785 := fun P hP => by
    have h2 := szR_le lenI 64 P (fun B hB => (h.2 P hP).2 B hB)
    have h3 := (h.2 P hP).1
    omega
  have h4 := szR_le (szR lenI) 70785 X h1
  have h5 := h.1
  unfold szCo
  omega
theorem up_33 {n d c : Int} (hn : 1 ≤ n ∧ n ≤ 256) (hd : 1 ≤ d ∧ d ≤ 4) (hc : 1 ≤ c ∧ c ≤ d) : upI n (8 * d) * c ≤ 33 := by
  have h0 := up_le32 hn hd
  have h1 : upI n (8 * d) * c ≤ upI n (8 * d) * d := Int.mul_le_mul_of_nonneg_left hc.2 (by omega)
  have h2 : upI n (8 * d) * d ≤ 33 := by
    unfold upI
    rw [Int.tdiv_eq_ediv_of_nonneg (by omega)]
    have : d = 1 ∨ d = 2 ∨ d = 3 ∨ d = 4 := by omega
    rcases this with rfl | rfl | rfl | rfl <;> omega
  omega
theorem dims33 {wd ht : Int} {n : Nat} {C : Nat → Nat → Int} (hg : Geo wd ht n C (mostA 1 C 1 n) (mostA 1 C 2 n)) (c : Nat) (hc : c < n) : bwG wd n C c * bhG ht n C c ≤ 1089 := by
  have h1 := up_33 hg.wd hg.hb ⟨(hg.ch c hc).1, mostA_at n c hc⟩
  have h2 := up_33 hg.ht hg.vb ⟨(hg.cv c hc).1, mostA_at n c hc⟩
  have d := dims_of hg c hc
  have e1 := d.bw
  have e2 := d.bh
  have h3 : bwG wd n C c ≤ 33 := by omega
  have h4 : bhG ht n C c ≤ 33 := by omega
  exact Nat.le_trans (Nat.mul_le_mul h3 h4) (by omega)
theorem shape_empty {p wd ht rs : Int} {n : Nat} {C : Nat → Nat → Int} {b : Bool} (hb : frameB p wd ht rs n C = b) : Shape (emptyF b wd ht n C) := by
  cases b with
  | false => exact ⟨by simp [emptyF], fun P hP => by simp [emptyF] at hP⟩
  | true =>
    have hg := geo_of hb
    have e : emptyF true wd ht n C = emptyG n (fun c => bwG wd n C c * bhG ht n C c) := rfl
    rw [e]
    refine ⟨by unfold emptyG; simp; exact hg.n4, fun P hP => ?_⟩
    unfold emptyG at hP
    obtain ⟨c, hc, rfl⟩ := List.mem_map.1 hP
    have hc' : c < n := by simpa using hc
    refine ⟨by simp; exact dims33 hg c hc', fun B hB => ?_⟩
    have := (List.mem_replicate.1 hB).2
    subst this
    unfold noughts
    simp
theorem shape_ok {p wd ht rs : Int} {n : Nat} {C : Nat → Nat → Int} {X : List (List (List Int))} (hb : frameB p wd ht rs n C = true) (h : coefsOkB wd ht n C X = true) : Shape X := by
  have hg := geo_of hb
  have h1 := h
  unfold coefsOkB at h1
  rw [Bool.and_eq_true] at h1
  have h2 : X.length = n := of_decide_eq_true h1.1
  have hn4 := hg.n4
  refine ⟨by omega, fun P hP => ?_⟩
  obtain ⟨c, hc, rfl⟩ := List.mem_iff_getElem.1 hP
  obtain ⟨_, h3, h4⟩ := ok_plane h c (by omega)
  refine ⟨by rw [h3]; exact dims33 hg c (by omega), fun B hB => ?_⟩
  obtain ⟨k, hk, rfl⟩ := List.mem_iff_getElem.1 hB
  rw [block_len (h4 k hk)]
  exact Nat.le_refl _
theorem shape_with {p wd ht rs : Int} {n : Nat} {C : Nat → Nat → Int} {b : Bool} (hb : frameB p wd ht rs n C = b) (X : List (List (List Int))) (co ro cl : Int) (bl : List Int) : Shape (withBlockF b wd ht n C X co ro cl bl) := by
  have hnil : Shape [] := ⟨by simp, fun P hP => by simp at hP⟩
  unfold withBlockF
  split
  · rename_i h
    rw [Bool.and_eq_true] at h
    obtain ⟨h1, h2⟩ := h
    unfold coefsOkF at h1
    rw [Bool.and_eq_true] at h1
    obtain ⟨hb1, h1⟩ := h1
    subst hb1
    have hs := shape_ok hb h1
    have hl := lev_len h2
    split
    · rename_i k hpl
      split
      · exact hnil
      · obtain ⟨c, r, l, rfl, rfl, rfl, hcn, -, -, -, -⟩ := place_in hpl
        obtain ⟨hX, _, _⟩ := ok_plane h1 c hcn
        have e : X.getD (c : Int).toNat [] = X[c] := by simp [hX]
        rw [e]
        refine ⟨by simpa using hs.1, fun P hP => ?_⟩
        rcases List.mem_or_eq_of_mem_set hP with hP | rfl
        · exact hs.2 P hP
        · have hc := hs.2 X[c] (List.getElem_mem hX)
          refine ⟨by simpa using hc.1, fun B hB => ?_⟩
          rcases List.mem_or_eq_of_mem_set hB with hB | rfl
          · exact hc.2 B hB
          · omega
    · exact hnil
  · exact hnil

def ImplEmpty : Prop := ∀ (p wd ht rs : Int) (ao : Option Addr) (n cap : Nat) (C : Nat → Nat → Int) (w : World), RdC w ao n C → n ≤ 4194304 → ∀ (b : Bool), Hid (frameB p wd ht rs n C = b) → ∀ (X : List (List (List Int))), Hid (emptyF b wd ht n C = X) →
    Calls Try.prog 18 #[.agg #[.int .i64 p, .int .i64 wd, .int .i64 ht, .int .i64 rs, .slice ao n cap]] w fun e w' => ∃ u F, e = .returned u ∧ OwCo w' u X F ∧ F.Nodup ∧ (∀ g ∈ F, w.heap.size ≤ g) ∧ w.grownBy w' none

def ImplCoefsOk : Prop := ∀ (p wd ht rs : Int) (ao : Option Addr) (n cap : Nat) (C : Nat → Nat → Int) (v : Value) (X : List (List (List Int))) (w : World), RdC w ao n C → n ≤ 4194304 → Rd3 w v X → szCo X ≤ 1048576 → ∀ (fb b : Bool), Hid (frameB p wd ht rs n C = fb) → Hid (coefsOkF fb wd ht n C X = b) →
    Calls Try.prog 13 #[.agg #[.int .i64 p, .int .i64 wd, .int .i64 ht, .int .i64 rs, .slice ao n cap], .agg #[v]] w fun e w' => e = .returned (.bool b) ∧ w.grownBy w' none

def ImplBlockAt : Prop := ∀ (p wd ht rs : Int) (ao : Option Addr) (n cap : Nat) (C : Nat → Nat → Int) (v : Value) (X : List (List (List Int))) (co ro cl : Int) (w : World), RdC w ao n C → n ≤ 4194304 → Rd3 w v X → szCo X ≤ 1048576 → ∀ (fb : Bool), Hid (frameB p wd ht rs n C = fb) → ∀ (L : List Int), Hid (blockAtF fb wd ht n C X co ro cl = L) →
    Calls Try.prog 16 #[.agg #[.int .i64 p, .int .i64 wd, .int .i64 ht, .int .i64 rs, .slice ao n cap], .agg #[v], .agg #[.int .i64 co, .int .i64 ro, .int .i64 cl]] w fun e w' => ∃ so sc, e = .returned (.slice so L.length sc) ∧ w'.ownsRow w.heap.size 3 1 (.slice so L.length sc) L.length (L.map (Value.int .i64)) ∧ w.grownBy w' none

def ImplWith : Prop := ∀ (p wd ht rs : Int) (ao : Option Addr) (n cap : Nat) (C : Nat → Nat → Int) (v : Value) (X : List (List (List Int))) (co ro cl : Int) (bo : Option Addr) (bn bc : Nat) (bl : List Int) (w : World), RdC w ao n C → n ≤ 4194304 → Rd3 w v X → szCo X ≤ 1048576 → Rd .i64 w bo bn bl → bn ≤ 1048576 → ∀ (fb : Bool), Hid (frameB p wd ht rs n C = fb) → ∀ (L : List (List (List Int))), Hid (withBlockF fb wd ht n C X co ro cl bl = L) →
    Calls Try.prog 10 #[.agg #[.int .i64 p, .int .i64 wd, .int .i64 ht, .int .i64 rs, .slice ao n cap], .agg #[v], .agg #[.int .i64 co, .int .i64 ro, .int .i64 cl], .slice bo bn bc] w fun e w' => ∃ u F, e = .returned u ∧ OwCo w' u L F ∧ F.Nodup ∧ (∀ g ∈ F, w.heap.size ≤ g) ∧ w.grownBy w' none

end Go.Proofs.Ytibgldanmhckiaa
