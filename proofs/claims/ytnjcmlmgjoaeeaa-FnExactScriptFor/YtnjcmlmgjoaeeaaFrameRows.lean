/-
  Rows of components, as they lie in memory, and the walks of the law's own small functions on them and on frames.
-/
import Derived.Test.YtnjcmlmgjoaeeaaFrameImpl3
namespace Go.Proofs.Ytnjcmlmgjoaeeaa
open Go.RowKit

theorem own_rdC {w : World} {base : Nat} {e : TypeId} {ao : Option Addr} {n cap : Nat} {C : Nat → Nat → Int} (h : w.ownsRow base e 4 (.slice ao n cap) n (rowsK n 4 (compCells C))) : RdC w ao n C := by
  intro i hi
  obtain ⟨g, rfl, _, _⟩ := own_at h (by omega)
  refine ⟨g, 0, rfl, fun j hj => ?_⟩
  rw [Nat.zero_add, h.cellAt _ (place_lt hi hj), rowsK_get n 4 _ i j hi hj]
  rfl

theorem Try.info68 : (Try.prog.info? 68).map (fun i => (i.zero, i.size, i.bytes)) = some (some (.agg #[.int .i64 0, .int .i64 0, .int .i64 0, .int .i64 0]), 4, 32) := by kernel_rfl

set_option maxHeartbeats 800000 in
theorem toComp (c0 c1 c2 c3 : Int) (w : World) :
    Calls Try.prog 75 #[.agg #[.int .i64 c0, .int .i64 c1, .int .i64 c2, .int .i64 c3]] w fun e w' => e = .returned (.agg #[.int .i64 c0, .int .i64 c1, .int .i64 c2, .int .i64 c3]) ∧ w.grownBy w' none := by
  go_enter Try.func75, Try.ntmps75
  go_wp2
  refine bodyPost_ret (v := .agg #[.int .i64 c0, .int .i64 c1, .int .i64 c2, .int .i64 c3]) (by simp [results, Try.results75, go_sem]) rfl ⟨rfl, ?_⟩
  exact grown_alloc (grown_alloc (grown_alloc (World.grownBy.refl _ _) _) _) _

/-- The copy's cells behind k rounds. -/
def compPart (C : Nat → Nat → Int) (k : Nat) : Nat → Nat → Value := fun i j => if i < k then .int .i64 (C i j) else .int .i64 0
theorem compPart_set (C : Nat → Nat → Int) (n k : Nat) (c0 c1 c2 c3 : Int) (h0 : C k 0 = c0) (h1 : C k 1 = c1) (h2 : C k 2 = c2) (h3 : C k 3 = c3) :
    ((((rowsK n 4 (compPart C k)).set (k * 4) (.int .i64 c0)).set (k * 4 + 1) (.int .i64 c1)).set (k * 4 + 2) (.int .i64 c2)).set (k * 4 + 3) (.int .i64 c3) = rowsK n 4 (compPart C (k + 1)) := by
  have e0 := rowsK_set n 4 (compPart C k) k 0 (.int .i64 c0) (by omega)
  rw [Nat.add_zero] at e0
  rw [e0, rowsK_set _ _ _ k 1 _ (by omega), rowsK_set _ _ _ k 2 _ (by omega), rowsK_set _ _ _ k 3 _ (by omega)]
  apply rowsK_congr
  intro i j _ hj
  have hj4 : j = 0 ∨ j = 1 ∨ j = 2 ∨ j = 3 := by omega
  by_cases e1 : i = k
  · subst e1
    rcases hj4 with rfl | rfl | rfl | rfl <;> simp [compPart, h0, h1, h2, h3]
  · by_cases e2 : i < k
    · rcases hj4 with rfl | rfl | rfl | rfl <;> simp [compPart, e1, e2, show i < k + 1 by omega]
    · rcases hj4 with rfl | rfl | rfl | rfl <;> simp [compPart, e1, e2, show ¬ i < k + 1 by omega]

set_option maxHeartbeats 1600000 in
theorem toCompS (ao : Option Addr) (n cap : Nat) (C : Nat → Nat → Int) (w : World) (hr : RdC w ao n C) (hn : n ≤ 4194304) :
    Calls Try.prog 56 #[.slice ao n cap] w fun e w' => e = .returned (.slice (some ⟨w.heap.size, 0, none⟩) n n) ∧
      w'.ownsRow w.heap.size 68 4 (.slice (some ⟨w.heap.size, 0, none⟩) n n) n (rowsK n 4 (compCells C)) ∧ w.grownBy w' none := by
  obtain ⟨i0, hi, hz0, hz1, hz2⟩ := info_parts Try.info68
  have HR := hide hr
  clear hr
  go_enter Try.func56, Try.ntmps56
  go_wp2_with (at_make; refine wpList_make_full _ rfl _ _ 24 rfl w.heap.size 68 i0 (.agg #[.int .i64 0, .int .i64 0, .int .i64 0, .int .i64 0]) 4 Try.underlying24 hi hz0 hz1 .i64 .i64 _ _ n rfl rfl rfl rfl (by rw [hz2]; omega) (by unfold maxLen; omega) (Nat.le_refl _) ?_)
  intro w1 hown hgrow
  have hown0 : w1.ownsRow w.heap.size 68 4 (.slice (some ⟨w.heap.size, 0, none⟩) n n) n (rowsK n 4 (compPart C 0)) := by
    have e := madeK #[.int .i64 0, .int .i64 0, .int .i64 0, .int .i64 0] n (by decide)
    have e2 : rowsK n 4 (compPart C 0) = (madeCells #[Value.int .i64 0, .int .i64 0, .int .i64 0, .int .i64 0] (n * 4)).toList := by
      rw [show (n * 4) = n * (#[Value.int .i64 0, .int .i64 0, .int .i64 0, .int .i64 0] : Array Value).size from rfl, e]
      apply rowsK_congr
      intro i j _ hj
      have : j = 0 ∨ j = 1 ∨ j = 2 ∨ j = 3 := by have : j < 4 := hj; omega
      rcases this with rfl | rfl | rfl | rfl <;> simp [compPart]
    rw [e2]; exact hown
  clear hown hi hz0 hz1 hz2
  go_wp2
  go_loopw [4] (fun i wr => ∃ k : Nat, k ≤ n ∧ i = .int .i64 k ∧ wr.ownsRow w.heap.size 68 4 (.slice (some ⟨w.heap.size, 0, none⟩) n n) n (rowsK n 4 (compPart C k)) ∧ w.grownBy wr none) (fun i _ => n - (intOf i).toNat)
  case atStart => exact ⟨0, Nat.zero_le _, rfl, hown0, hgrow⟩
  case round =>
    obtain ⟨k, hk, rfl, hok, hgk⟩ := hrel
    clear hown0 hgrow
    by_cases hlt : k < n
    · obtain ⟨b, off, rfl, hc⟩ := (unhide HR) k hlt
      have hc' := fun j hj => hgk.cell (hc j hj) (by simp)
      have h0 := hc' 0 (by omega)
      have h1 := hc' 1 (by omega)
      have h2 := hc' 2 (by omega)
      have h3 := hc' 3 (by omega)
      rw [Nat.add_zero] at h0
      clear hc hc'
      have HSET := hide (compPart_set C n k (C k 0) (C k 1) (C k 2) (C k 3) rfl rfl rfl rfl)
      generalize C k 0 = c0 at *
      generalize C k 1 = c1 at *
      generalize C k 2 = c2 at *
      generalize C k 3 = c3 at *
      go_wp2_with fail
      refine (toComp c0 c1 c2 c3 wr).mono ?_
      rintro e w2 ⟨rfl, g2⟩
      have hok2 := own_grown hok g2
      have hG2 := grown_trans hgk g2
      have f0 := hok2.frozenAt (k * 4)
      have f1 := hok2.frozenAt (k * 4 + 1)
      have f2 := hok2.frozenAt (k * 4 + 2)
      have f3 := hok2.frozenAt (k * 4 + 3)
      have hold : ∀ j, j < n * 4 → ∃ u, w2.cell? ⟨w.heap.size, j, none⟩ = some u := fun j hj => by rw [hok2.cellAt j hj]; exact ⟨_, List.getElem?_eq_getElem (by rw [hok2.1]; omega)⟩
      obtain ⟨v0, hv0⟩ := hold (k * 4) (by omega)
      obtain ⟨v1, hv1⟩ := hold (k * 4 + 1) (by omega)
      obtain ⟨v2, hv2⟩ := hold (k * 4 + 2) (by omega)
      obtain ⟨v3, hv3⟩ := hold (k * 4 + 3) (by omega)
      have s0 := hok2.stored (k * 4) (.int .i64 c0)
      have s1 := s0.1.stored (k * 4 + 1) (.int .i64 c1)
      have s2 := s1.1.stored (k * 4 + 2) (.int .i64 c2)
      have s3 := s2.1.stored (k * 4 + 3) (.int .i64 c3)
      have hg' := grown_new hG2 (grown_trans (grown_trans (grown_trans s0.2 s1.2) s2.2) s3.2) (by intro g e; simp at e; omega)
      have HS := hide s3.1
      rw [unhide HSET] at HS
      have HG := hide hg'
      clear s0 s1 s2 s3 hok hok2 hgk hG2 hold g2 h0 h1 h2 h3 hg' HSET
      go_wp2
      go_roundw
      case rel => exact ⟨k + 1, by omega, by go_num, unhide HS, unhide HG⟩
      case measure => simp [intOf]; omega
    · have hkn : k = n := by omega
      subst hkn
      go_wp2
      go_ret
      refine ⟨rfl, ?_, hgk⟩
      have e : rowsK k 4 (compCells C) = rowsK k 4 (compPart C k) := rowsK_congr (fun i j hi' _ => by unfold compPart compCells; rw [if_pos hi'])
      rw [e]; exact hok

theorem szCompS (ao : Option Addr) (n cap : Nat) (left r : Int) (w : World) (h0 : 0 ≤ left) (h1 : left ≤ 1048576) (hm : n ≤ 9223372036854775807) (hr : Hid ((if (n : Int) ≤ left then left - n else -1) = r)) :
    Calls Try.prog 52 #[.slice ao n cap, .int .i64 left] w fun e w' => e = .returned (.int .i64 r) ∧ w = w' := by
  by_cases h : (n : Int) ≤ left
  · have e : left - n = r := by have := unhide hr; rwa [if_pos h] at this
    subst e
    clear hr
    have hn : ¬ (left - (n : Int) < 0) := by omega
    go_enter Try.func52, Try.ntmps52
    go_wp2
    go_ret
    exact ⟨rfl, rfl⟩
  · have e : -1 = r := by have := unhide hr; rwa [if_neg h] at this
    subst e
    clear hr
    have hn : left - (n : Int) < 0 := by omega
    go_enter Try.func52, Try.ntmps52
    go_wp2
    go_ret
    exact ⟨rfl, rfl⟩

theorem szFrame (p wd ht rs : Int) (ao : Option Addr) (n cap : Nat) (left r : Int) (w : World) (h0 : 0 ≤ left) (h1 : left ≤ 1048576) (hm : n ≤ 9223372036854775807) (hr : Hid ((if (n : Int) ≤ left then left - n else -1) = r)) :
    Calls Try.prog 18 #[.agg #[.int .i64 p, .int .i64 wd, .int .i64 ht, .int .i64 rs, .slice ao n cap], .int .i64 left] w fun e w' => e = .returned (.int .i64 r) ∧ w.grownBy w' none := by
  by_cases h : (n : Int) ≤ left
  · have e : left - n = r := by have := unhide hr; rwa [if_pos h] at this
    subst e
    have hn : ¬ (left - (n : Int) < 0) := by omega
    go_enter Try.func18, Try.ntmps18
    go_wp2_with fail
    refine (szCompS ao n cap left _ _ h0 h1 hm hr).mono ?_
    rintro e w1 ⟨rfl, rfl⟩
    go_wp2
    go_ret
    exact ⟨rfl, grown_alloc (World.grownBy.refl _ _) _⟩
  · have e : -1 = r := by have := unhide hr; rwa [if_neg h] at this
    subst e
    go_enter Try.func18, Try.ntmps18
    go_wp2_with fail
    refine (szCompS ao n cap left _ _ h0 h1 hm hr).mono ?_
    rintro e w1 ⟨rfl, rfl⟩
    go_wp2
    go_ret
    exact ⟨rfl, grown_alloc (World.grownBy.refl _ _) _⟩

set_option maxHeartbeats 800000 in
theorem eqComp (c0 c1 c2 c3 : Int) (w : World) :
    Calls Try.prog 78 #[.agg #[.int .i64 c0, .int .i64 c1, .int .i64 c2, .int .i64 c3], .agg #[.int .i64 c0, .int .i64 c1, .int .i64 c2, .int .i64 c3]] w fun e w' => e = .returned (.bool true) ∧ w.grownBy w' none := by
  have h0 : (c0 != c0) = false := by simp
  have h1 : (c1 != c1) = false := by simp
  have h2 : (c2 != c2) = false := by simp
  have h3 : (c3 != c3) = false := by simp
  go_enter Try.func78, Try.ntmps78
  go_wp2
  go_ret
  exact ⟨rfl, grown_alloc (grown_alloc (World.grownBy.refl _ _) _) _⟩

set_option maxHeartbeats 1600000 in
theorem eqCompS (ao bo : Option Addr) (n cap cap' : Nat) (C : Nat → Nat → Int) (w : World) (hx : RdC w ao n C) (hy : RdC w bo n C) (hn : n ≤ 4194304) :
    Calls Try.prog 59 #[.slice ao n cap, .slice bo n cap'] w fun e w' => e = .returned (.bool true) ∧ w.grownBy w' none := by
  have HX := hide hx
  have HY := hide hy
  clear hx hy
  have hne : ((n : Int) != n) = false := by simp
  go_enter Try.func59, Try.ntmps59
  go_wp2
  go_loopw [5] (fun i wr => ∃ k : Nat, k ≤ n ∧ i = .int .i64 k ∧ w.grownBy wr none) (fun i _ => n - (intOf i).toNat)
  case atStart => exact ⟨0, Nat.zero_le _, rfl, World.grownBy.refl _ _⟩
  case round =>
    obtain ⟨k, hk, rfl, hgk⟩ := hrel
    by_cases hlt : k < n
    · obtain ⟨b, off, rfl, hc⟩ := (unhide HX) k hlt
      obtain ⟨b', off', rfl, hd⟩ := (unhide HY) k hlt
      have hc' := fun j hj => hgk.cell (hc j hj) (by simp)
      have hd' := fun j hj => hgk.cell (hd j hj) (by simp)
      have a0 := hc' 0 (by omega)
      have a1 := hc' 1 (by omega)
      have a2 := hc' 2 (by omega)
      have a3 := hc' 3 (by omega)
      have b0 := hd' 0 (by omega)
      have b1 := hd' 1 (by omega)
      have b2 := hd' 2 (by omega)
      have b3 := hd' 3 (by omega)
      rw [Nat.add_zero] at a0 b0
      clear hc hc' hd hd'
      generalize C k 0 = c0 at *
      generalize C k 1 = c1 at *
      generalize C k 2 = c2 at *
      generalize C k 3 = c3 at *
      have hik : (k : Int) < (n : Int) := by omega
      go_wp2
      go_region_with (go_at_call 78; refine (eqComp c0 c1 c2 c3 _).mono ?_; rintro e w2 ⟨rfl, g2⟩)
      all_goals
        go_wp2
        go_roundw
        case rel => exact ⟨k + 1, by omega, by go_num, grown_trans (grown_drew hgk) g2⟩
        case measure => simp [intOf]; omega
    · go_wp2
      go_ret
      exact ⟨rfl, hgk⟩

set_option maxHeartbeats 1600000 in
theorem eqFrame (p wd ht rs : Int) (ao bo : Option Addr) (n cap cap' : Nat) (C : Nat → Nat → Int) (w : World) (hx : RdC w ao n C) (hy : RdC w bo n C) (hn : n ≤ 4194304) :
    Calls Try.prog 24 #[.agg #[.int .i64 p, .int .i64 wd, .int .i64 ht, .int .i64 rs, .slice ao n cap], .agg #[.int .i64 p, .int .i64 wd, .int .i64 ht, .int .i64 rs, .slice bo n cap']] w fun e w' => e = .returned (.bool true) ∧ w.grownBy w' none := by
  have HX := hide hx
  have HY := hide hy
  clear hx hy
  have h0 : (p != p) = false := by simp
  have h1 : (wd != wd) = false := by simp
  have h2 : (ht != ht) = false := by simp
  have h3 : (rs != rs) = false := by simp
  have G : Hid (w.grownBy ((w.alloc (.cells #[.int .i64 p, .int .i64 wd, .int .i64 ht, .int .i64 rs, .slice ao n cap] 26)).alloc (.cells #[.int .i64 p, .int .i64 wd, .int .i64 ht, .int .i64 rs, .slice bo n cap'] 26)) none) := grown_alloc (grown_alloc (World.grownBy.refl _ _) _) _
  go_enter Try.func24, Try.ntmps24
  go_wp2_with fail
  refine (eqCompS ao bo n cap cap' C _ ((unhide HX).grown (unhide G)) ((unhide HY).grown (unhide G)) hn).mono ?_
  rintro e w1 ⟨rfl, g1⟩
  go_wp2
  go_ret
  exact ⟨rfl, grown_trans (unhide G) g1⟩

end Go.Proofs.Ytnjcmlmgjoaeeaa
