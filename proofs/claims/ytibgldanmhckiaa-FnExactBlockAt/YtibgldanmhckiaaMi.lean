/-
  FrameRows, FrameLaws, FrameMarks, CoefBox, LawCoefsOk, CoefIn, LawBlockAt.
-/
import Derived.Test.YtibgldanmhckiaaMh

namespace Go.Proofs.Ytibgldanmhckiaa
open Go.RowKit

theorem own_rdC {w : World} {base : Nat} {e : TypeId} {ao : Option Addr} {n cap : Nat} {C : Nat → Nat → Int} (h : w.ownsRow base e 4 (.slice ao n cap) n (rowsK n 4 (compCells C))) : RdC w ao n C := by
  intro i hi
  obtain ⟨g, rfl, _, _⟩ := own_at h (by omega)
  refine ⟨g, 0, rfl, fun j hj => ?_⟩
  rw [Nat.zero_add, h.cellAt _ (place_lt hi hj), rowsK_get n 4 _ i j hi hj]
  rfl

theorem Try.info70 : (Try.prog.info? 70).map (fun i => (i.zero, i.size, i.bytes)) = some (some (.agg #[.int .i64 0, .int .i64 0, .int .i64 0, .int .i64 0]), 4, 32) := by kernel_rfl

set_option maxHeartbeats 800000 in
theorem toComp (c0 c1 c2 c3 : Int) (w : World) :
    Calls Try.prog 92 #[.agg #[.int .i64 c0, .int .i64 c1, .int .i64 c2, .int .i64 c3]] w fun e w' => e = .returned (.agg #[.int .i64 c0, .int .i64 c1, .int .i64 c2, .int .i64 c3]) ∧ w.grownBy w' none := by
  go_enter Try.func92, Try.ntmps92
  go_wp2
  refine bodyPost_ret (v := .agg #[.int .i64 c0, .int .i64 c1, .int .i64 c2, .int .i64 c3]) (by simp [results, Try.results92, go_sem]) rfl ⟨rfl, ?_⟩
  exact grown_alloc (grown_alloc (grown_alloc (World.grownBy.refl _ _) _) _) _

/-- The copy's cells behind k rounds. -/
def compPart (C : Nat → Nat → Int) (k : Nat) : Nat → Nat → Value := fun i j => if i < k then .int .i64 (C i j) else .int .i64 0
theorem compPart_set (C : Nat → Nat → Int) (n k : Nat) (c0 c1 c2 c3 : Int) (h0 : C k 0 = c0) (h1 : C k 1 = c1) (h2 : C k 2 = c2) (h3 : C k 3 = c3) :
    ((((rowsK n 4 (compPart C k)).set (k * 4) (.int .i64 c0)).set (k * 4 + 1) (.int .i64 c1)).set (k * 4 + 2) (.int .i64 c2)).set (k * 4 + 3) (.int .i64 c3) = rowsK n 4 (compPart C (k + 1)) := by
  have e0 := rowsK_set n 4 (compPart C k) k 0 (.int .i64 c0) (by omega)
  rw [Nat.add_zero] at e0
  rw [e0, rowsK_set _ _ _ k 1 _ (by omega), rowsK_set _ _ _ k 2 _ (by omega), rowsK_set _ _ _ k 3 _ (by omega)]
  apply rowsK_congr
  intro i j _ hj
  have hj4 : j = 0 ∨ j = 1 ∨ j = 2 ∨ j = 3 := by omega
  by_cases e1 : i = k
  · subst e1
    rcases hj4 with rfl | rfl | rfl | rfl <;> simp [compPart, h0, h1, h2, h3]
  · by_cases e2 : i < k
    · rcases hj4 with rfl | rfl | rfl | rfl <;> simp [compPart, e1, e2, show i < k + 1 by omega]
    · rcases hj4 with rfl | rfl | rfl | rfl <;> simp [compPart, e1, e2, show ¬ i < k + 1 by omega]

set_option maxHeartbeats 1600000 in
theorem toCompS (ao : Option Addr) (n cap : Nat) (C : Nat → Nat → Int) (w : World) (hr : RdC w ao n C) (hn : n ≤ 4194304) :
    Calls Try.prog 60 #[.slice ao n cap] w fun e w' => e = .returned (.slice (some ⟨w.heap.size, 0, none⟩) n n) ∧
      w'.ownsRow w.heap.size 70 4 (.slice (some ⟨w.heap.size, 0, none⟩) n n) n (rowsK n 4 (compCells C)) ∧ w.grownBy w' none := by
  obtain ⟨i0, hi, hz0, hz1, hz2⟩ := info_parts Try.info70
  have HR := hide hr
  clear hr
  go_enter Try.func60, Try.ntmps60
  go_wp2_with (at_make; refine wpList_make_full _ rfl _ _ 24 rfl w.heap.size 70 i0 (.agg #[.int .i64 0, .int .i64 0, .int .i64 0, .int .i64 0]) 4 Try.underlying24 hi hz0 hz1 .i64 .i64 _ _ n rfl rfl rfl rfl (by rw [hz2]; omega) (by unfold maxLen; omega) (Nat.le_refl _) ?_)
  intro w1 hown hgrow
  have hown0 : w1.ownsRow w.heap.size 70 4 (.slice (some ⟨w.heap.size, 0, none⟩) n n) n (rowsK n 4 (compPart C 0)) := by
    have e := madeK #[.int .i64 0, .int .i64 0, .int .i64 0, .int .i64 0] n (by decide)
    have e2 : rowsK n 4 (compPart C 0) = (madeCells #[Value.int .i64 0, .int .i64 0, .int .i64 0, .int .i64 0] (n * 4)).toList := by
      rw [show (n * 4) = n * (#[Value.int .i64 0, .int .i64 0, .int .i64 0, .int .i64 0] : Array Value).size from rfl, e]
      apply rowsK_congr
      intro i j _ hj
      have : j = 0 ∨ j = 1 ∨ j = 2 ∨ j = 3 := by have : j < 4 := hj; omega
      rcases this with rfl | rfl | rfl | rfl <;> simp [compPart]
    rw [e2]; exact hown
  clear hown hi hz0 hz1 hz2
  go_wp2
  go_loopw [4] (fun i wr => ∃ k : Nat, k ≤ n ∧ i = .int .i64 k ∧ wr.ownsRow w.heap.size 70 4 (.slice (some ⟨w.heap.size, 0, none⟩) n n) n (rowsK n 4 (compPart C k)) ∧ w.grownBy wr none) (fun i _ => n - (intOf i).toNat)
  case atStart => exact ⟨0, Nat.zero_le _, rfl, hown0, hgrow⟩
  case round =>
    obtain ⟨k, hk, rfl, hok, hgk⟩ := hrel
    clear hown0 hgrow
    by_cases hlt : k < n
    · obtain ⟨b, off, rfl, hc⟩ := (unhide HR) k hlt
      have hc' := fun j hj => hgk.cell (hc j hj) (by simp)
      have h0 := hc' 0 (by omega)
      have h1 := hc' 1 (by omega)
      have h2 := hc' 2 (by omega)
      have h3 := hc' 3 (by omega)
      rw [Nat.add_zero] at h0
      clear hc hc'
      have HSET := hide (compPart_set C n k (C k 0) (C k 1) (C k 2) (C k 3) rfl rfl rfl rfl)
      generalize C k 0 = c0 at *
      generalize C k 1 = c1 at *
      generalize C k 2 = c2 at *
      generalize C k 3 = c3 at *
      go_wp2_with fail
      refine (toComp c0 c1 c2 c3 wr).mono ?_
      rintro e w2 ⟨rfl, g2⟩
      have hok2 := own_grown hok g2
      have hG2 := grown_trans hgk g2
      have f0 := hok2.frozenAt (k * 4)
      have f1 := hok2.frozenAt (k * 4 + 1)
      have f2 := hok2.frozenAt (k * 4 + 2)
      have f3 := hok2.frozenAt (k * 4 + 3)
      have hold : ∀ j, j < n * 4 → ∃ u, w2.cell? ⟨w.heap.size, j, none⟩ = some u := fun j hj => by rw [hok2.cellAt j hj]; exact ⟨_, List.getElem?_eq_getElem (by rw [hok2.1]; omega)⟩
      obtain ⟨v0, hv0⟩ := hold (k * 4) (by omega)
      obtain ⟨v1, hv1⟩ := hold (k * 4 + 1) (by omega)
      obtain ⟨v2, hv2⟩ := hold (k * 4 + 2) (by omega)
      obtain ⟨v3, hv3⟩ := hold (k * 4 + 3) (by omega)
      have s0 := hok2.stored (k * 4) (.int .i64 c0)
      have s1 := s0.1.stored (k * 4 + 1) (.int .i64 c1)
      have s2 := s1.1.stored (k * 4 + 2) (.int .i64 c2)
      have s3 := s2.1.stored (k * 4 + 3) (.int .i64 c3)
      have hg' := grown_new hG2 (grown_trans (grown_trans (grown_trans s0.2 s1.2) s2.2) s3.2) (by intro g e; simp at e; omega)
      have HS := hide s3.1
      rw [unhide HSET] at HS
      have HG := hide hg'
      clear s0 s1 s2 s3 hok hok2 hgk hG2 hold g2 h0 h1 h2 h3 hg' HSET
      go_wp2
      go_roundw
      case rel => exact ⟨k + 1, by omega, by go_num, unhide HS, unhide HG⟩
      case measure => simp [intOf]; omega
    · have hkn : k = n := by omega
      subst hkn
      go_wp2
      go_ret
      refine ⟨rfl, ?_, hgk⟩
      have e : rowsK k 4 (compCells C) = rowsK k 4 (compPart C k) := rowsK_congr (fun i j hi' _ => by unfold compPart compCells; rw [if_pos hi'])
      rw [e]; exact hok

theorem szCompS (ao : Option Addr) (n cap : Nat) (left r : Int) (w : World) (h0 : 0 ≤ left) (h1 : left ≤ 1048576) (hm : n ≤ 9223372036854775807) (hr : Hid ((if (n : Int) ≤ left then left - n else -1) = r)) :
    Calls Try.prog 59 #[.slice ao n cap, .int .i64 left] w fun e w' => e = .returned (.int .i64 r) ∧ w = w' := by
  by_cases h : (n : Int) ≤ left
  · have e : left - n = r := by have := unhide hr; rwa [if_pos h] at this
    subst e
    clear hr
    have hn : ¬ (left - (n : Int) < 0) := by omega
    go_enter Try.func59, Try.ntmps59
    go_wp2
    go_ret
    exact ⟨rfl, rfl⟩
  · have e : -1 = r := by have := unhide hr; rwa [if_neg h] at this
    subst e
    clear hr
    have hn : left - (n : Int) < 0 := by omega
    go_enter Try.func59, Try.ntmps59
    go_wp2
    go_ret
    exact ⟨rfl, rfl⟩

theorem szFrame (p wd ht rs : Int) (ao : Option Addr) (n cap : Nat) (left r : Int) (w : World) (h0 : 0 ≤ left) (h1 : left ≤ 1048576) (hm : n ≤ 9223372036854775807) (hr : Hid ((if (n : Int) ≤ left then left - n else -1) = r)) :
    Calls Try.prog 20 #[.agg #[.int .i64 p, .int .i64 wd, .int .i64 ht, .int .i64 rs, .slice ao n cap], .int .i64 left] w fun e w' => e = .returned (.int .i64 r) ∧ w.grownBy w' none := by
  by_cases h : (n : Int) ≤ left
  · have e : left - n = r := by have := unhide hr; rwa [if_pos h] at this
    subst e
    have hn : ¬ (left - (n : Int) < 0) := by omega
    go_enter Try.func20, Try.ntmps20
    go_wp2_with fail
    refine (szCompS ao n cap left _ _ h0 h1 hm hr).mono ?_
    rintro e w1 ⟨rfl, rfl⟩
    go_wp2
    go_ret
    exact ⟨rfl, grown_alloc (World.grownBy.refl _ _) _⟩
  · have e : -1 = r := by have := unhide hr; rwa [if_neg h] at this
    subst e
    go_enter Try.func20, Try.ntmps20
    go_wp2_with fail
    refine (szCompS ao n cap left _ _ h0 h1 hm hr).mono ?_
    rintro e w1 ⟨rfl, rfl⟩
    go_wp2
    go_ret
    exact ⟨rfl, grown_alloc (World.grownBy.refl _ _) _⟩

set_option maxHeartbeats 800000 in
theorem eqComp (c0 c1 c2 c3 : Int) (w : World) :
    Calls Try.prog 94 #[.agg #[.int .i64 c0, .int .i64 c1, .int .i64 c2, .int .i64 c3], .agg #[.int .i64 c0, .int .i64 c1, .int .i64 c2, .int .i64 c3]] w fun e w' => e = .returned (.bool true) ∧ w.grownBy w' none := by
  have h0 : (c0 != c0) = false := by simp
  have h1 : (c1 != c1) = false := by simp
  have h2 : (c2 != c2) = false := by simp
  have h3 : (c3 != c3) = false := by simp
  go_enter Try.func94, Try.ntmps94
  go_wp2
  go_ret
  exact ⟨rfl, grown_alloc (grown_alloc (World.grownBy.refl _ _) _) _⟩

set_option maxHeartbeats 1600000 in
theorem eqCompS (ao bo : Option Addr) (n cap cap' : Nat) (C : Nat → Nat → Int) (w : World) (hx : RdC w ao n C) (hy : RdC w bo n C) (hn : n ≤ 4194304) :
    Calls Try.prog 62 #[.slice ao n cap, .slice bo n cap'] w fun e w' => e = .returned (.bool true) ∧ w.grownBy w' none := by
  have HX := hide hx
  have HY := hide hy
  clear hx hy
  have hne : ((n : Int) != n) = false := by simp
  go_enter Try.func62, Try.ntmps62
  go_wp2
  go_loopw [5] (fun i wr => ∃ k : Nat, k ≤ n ∧ i = .int .i64 k ∧ w.grownBy wr none) (fun i _ => n - (intOf i).toNat)
  case atStart => exact ⟨0, Nat.zero_le _, rfl, World.grownBy.refl _ _⟩
  case round =>
    obtain ⟨k, hk, rfl, hgk⟩ := hrel
    by_cases hlt : k < n
    · obtain ⟨b, off, rfl, hc⟩ := (unhide HX) k hlt
      obtain ⟨b', off', rfl, hd⟩ := (unhide HY) k hlt
      have hc' := fun j hj => hgk.cell (hc j hj) (by simp)
      have hd' := fun j hj => hgk.cell (hd j hj) (by simp)
      have a0 := hc' 0 (by omega)
      have a1 := hc' 1 (by omega)
      have a2 := hc' 2 (by omega)
      have a3 := hc' 3 (by omega)
      have b0 := hd' 0 (by omega)
      have b1 := hd' 1 (by omega)
      have b2 := hd' 2 (by omega)
      have b3 := hd' 3 (by omega)
      rw [Nat.add_zero] at a0 b0
      clear hc hc' hd hd'
      generalize C k 0 = c0 at *
      generalize C k 1 = c1 at *
      generalize C k 2 = c2 at *
      generalize C k 3 = c3 at *
      have hik : (k : Int) < (n : Int) := by omega
      go_wp2
      go_region_with (go_at_call 94; refine (eqComp c0 c1 c2 c3 _).mono ?_; rintro e w2 ⟨rfl, g2⟩)
      all_goals
        go_wp2
        go_roundw
        case rel => exact ⟨k + 1, by omega, by go_num, grown_trans (grown_drew hgk) g2⟩
        case measure => simp [intOf]; omega
    · go_wp2
      go_ret
      exact ⟨rfl, hgk⟩

set_option maxHeartbeats 1600000 in
theorem eqFrame (p wd ht rs : Int) (ao bo : Option Addr) (n cap cap' : Nat) (C : Nat → Nat → Int) (w : World) (hx : RdC w ao n C) (hy : RdC w bo n C) (hn : n ≤ 4194304) :
    Calls Try.prog 23 #[.agg #[.int .i64 p, .int .i64 wd, .int .i64 ht, .int .i64 rs, .slice ao n cap], .agg #[.int .i64 p, .int .i64 wd, .int .i64 ht, .int .i64 rs, .slice bo n cap']] w fun e w' => e = .returned (.bool true) ∧ w.grownBy w' none := by
  have HX := hide hx
  have HY := hide hy
  clear hx hy
  have h0 : (p != p) = false := by simp
  have h1 : (wd != wd) = false := by simp
  have h2 : (ht != ht) = false := by simp
  have h3 : (rs != rs) = false := by simp
  have G : Hid (w.grownBy ((w.alloc (.cells #[.int .i64 p, .int .i64 wd, .int .i64 ht, .int .i64 rs, .slice ao n cap] 26)).alloc (.cells #[.int .i64 p, .int .i64 wd, .int .i64 ht, .int .i64 rs, .slice bo n cap'] 26)) none) := grown_alloc (grown_alloc (World.grownBy.refl _ _) _) _
  go_enter Try.func23, Try.ntmps23
  go_wp2_with fail
  refine (eqCompS ao bo n cap cap' C _ ((unhide HX).grown (unhide G)) ((unhide HY).grown (unhide G)) hn).mono ?_
  rintro e w1 ⟨rfl, g1⟩
  go_wp2
  go_ret
  exact ⟨rfl, grown_trans (unhide G) g1⟩

end Go.Proofs.Ytibgldanmhckiaa

namespace Go.Proofs.Ytibgldanmhckiaa
open Go.RowKit

theorem frameCells {w : World} {g : Nat} {a b c d v : Value} {t : TypeId} (hb : w.heap[g]? = some (.cells #[a, b, c, d, v] t (0, 0))) :
    w.cell? ⟨g, 0, none⟩ = some a ∧ w.cell? ⟨g, 1, none⟩ = some b ∧ w.cell? ⟨g, 2, none⟩ = some c ∧ w.cell? ⟨g, 3, none⟩ = some d ∧ w.cell? ⟨g, 4, none⟩ = some v :=
  ⟨by rw [cell_of_row w _ 0 _ _ (0, 0) hb]; rfl, by rw [cell_of_row w _ 1 _ _ (0, 0) hb]; rfl, by rw [cell_of_row w _ 2 _ _ (0, 0) hb]; rfl, by rw [cell_of_row w _ 3 _ _ (0, 0) hb]; rfl, by rw [cell_of_row w _ 4 _ _ (0, 0) hb]; rfl⟩

set_option maxHeartbeats 1600000 in
theorem toFrame (p wd ht rs : Int) (ao : Option Addr) (n cap : Nat) (C : Nat → Nat → Int) (w : World) (hr : RdC w ao n C) (hn : n ≤ 4194304) :
    Calls Try.prog 21 #[.agg #[.int .i64 p, .int .i64 wd, .int .i64 ht, .int .i64 rs, .slice ao n cap]] w fun e w' => ∃ g, e = .returned (.agg #[.int .i64 p, .int .i64 wd, .int .i64 ht, .int .i64 rs, .slice (some ⟨g, 0, none⟩) n n]) ∧
      w'.ownsRow w.heap.size 70 4 (.slice (some ⟨g, 0, none⟩) n n) n (rowsK n 4 (compCells C)) ∧ w.grownBy w' none := by
  have HR := hide hr
  clear hr
  obtain ⟨W3, hW3⟩ : ∃ W3, (((w.alloc (.cells #[.int .i64 p, .int .i64 wd, .int .i64 ht, .int .i64 rs, .slice ao n cap] 46)).alloc (.cells #[.int .i64 0, .int .i64 0, .int .i64 0, .int .i64 0, .slice none 0 0] 26)).alloc (.cells #[.int .i64 p, .int .i64 wd, .int .i64 ht, .int .i64 rs, .slice none 0 0] 26)) = W3 := ⟨_, rfl⟩
  have G0 : w.grownBy W3 none := by rw [← hW3]; exact grown_alloc (grown_alloc (grown_alloc (World.grownBy.refl _ _) _) _) _
  have b1 : W3.heap[w.heap.size + 1]? = some (.cells #[.int .i64 0, .int .i64 0, .int .i64 0, .int .i64 0, .slice none 0 0] 26 (0, 0)) := by
    rw [← hW3, Below.heap_alloc _ _ _ (by simp)]
    have := heap_alloc_new (w.alloc (.cells #[.int .i64 p, .int .i64 wd, .int .i64 ht, .int .i64 rs, .slice ao n cap] 46)) (.cells #[.int .i64 0, .int .i64 0, .int .i64 0, .int .i64 0, .slice none 0 0] 26)
    simpa using this
  have b2 : W3.heap[w.heap.size + 1 + 1]? = some (.cells #[.int .i64 p, .int .i64 wd, .int .i64 ht, .int .i64 rs, .slice none 0 0] 26 (0, 0)) := by
    rw [← hW3]
    have := heap_alloc_new ((w.alloc (.cells #[.int .i64 p, .int .i64 wd, .int .i64 ht, .int .i64 rs, .slice ao n cap] 46)).alloc (.cells #[.int .i64 0, .int .i64 0, .int .i64 0, .int .i64 0, .slice none 0 0] 26)) (.cells #[.int .i64 p, .int .i64 wd, .int .i64 ht, .int .i64 rs, .slice none 0 0] 26)
    simpa using this
  have hsz : W3.heap.size = w.heap.size + 3 := by rw [← hW3]; simp
  have HW := hide hW3
  have B1 := hide b1
  have B2 := hide b2
  have HSZ := hide hsz
  have HG0 := hide G0
  clear hW3 b1 b2 hsz G0
  go_enter Try.func21, Try.ntmps21
  go_wp2_with fail
  rw [unhide HW]
  refine (toCompS ao n cap C W3 ((unhide HR).grown (unhide HG0)) hn).mono ?_
  rintro e w1 ⟨rfl, o1, g1⟩
  have G1 := grown_trans (unhide HG0) g1
  have hz := unhide HSZ
  have e1 := (g1.block (w.heap.size + 1) (by omega) (by simp)).trans (unhide B1)
  have e2 := (g1.block (w.heap.size + 1 + 1) (by omega) (by simp)).trans (unhide B2)
  have hge : w.heap.size + 3 ≤ W3.heap.size := by omega
  have O1 := hide (own_base o1 (show w.heap.size ≤ W3.heap.size by omega))
  have HG1 := hide G1
  clear HW hz HSZ B1 B2 HG0 HR G1 o1 g1
  generalize W3.heap.size = gx at *
  have c0 : w1.cell? ⟨w.heap.size + 1 + 1, 0, none⟩ = some (.int .i64 p) := by rw [cell_of_row w1 _ 0 _ _ (0, 0) e2]; rfl
  have c1 : w1.cell? ⟨w.heap.size + 1 + 1, 1, none⟩ = some (.int .i64 wd) := by rw [cell_of_row w1 _ 1 _ _ (0, 0) e2]; rfl
  have c2 : w1.cell? ⟨w.heap.size + 1 + 1, 2, none⟩ = some (.int .i64 ht) := by rw [cell_of_row w1 _ 2 _ _ (0, 0) e2]; rfl
  have c3 : w1.cell? ⟨w.heap.size + 1 + 1, 3, none⟩ = some (.int .i64 rs) := by rw [cell_of_row w1 _ 3 _ _ (0, 0) e2]; rfl
  have c4 : w1.cell? ⟨w.heap.size + 1 + 1, 4, none⟩ = some (.slice none 0 0) := by rw [cell_of_row w1 _ 4 _ _ (0, 0) e2]; rfl
  have f4 : w1.frozen? ⟨w.heap.size + 1 + 1, 4, none⟩ = false := frozen_of_row w1 _ 4 _ _ e2
  have d0 : w1.cell? ⟨w.heap.size + 1, 0, none⟩ = some (.int .i64 0) := by rw [cell_of_row w1 _ 0 _ _ (0, 0) e1]; rfl
  have d1 : w1.cell? ⟨w.heap.size + 1, 1, none⟩ = some (.int .i64 0) := by rw [cell_of_row w1 _ 1 _ _ (0, 0) e1]; rfl
  have d2 : w1.cell? ⟨w.heap.size + 1, 2, none⟩ = some (.int .i64 0) := by rw [cell_of_row w1 _ 2 _ _ (0, 0) e1]; rfl
  have d3 : w1.cell? ⟨w.heap.size + 1, 3, none⟩ = some (.int .i64 0) := by rw [cell_of_row w1 _ 3 _ _ (0, 0) e1]; rfl
  have d4 : w1.cell? ⟨w.heap.size + 1, 4, none⟩ = some (.slice none 0 0) := by rw [cell_of_row w1 _ 4 _ _ (0, 0) e1]; rfl
  have k0 : w1.frozen? ⟨w.heap.size + 1, 0, none⟩ = false := frozen_of_row w1 _ 0 _ _ e1
  have k1 : w1.frozen? ⟨w.heap.size + 1, 1, none⟩ = false := frozen_of_row w1 _ 1 _ _ e1
  have k2 : w1.frozen? ⟨w.heap.size + 1, 2, none⟩ = false := frozen_of_row w1 _ 2 _ _ e1
  have k3 : w1.frozen? ⟨w.heap.size + 1, 3, none⟩ = false := frozen_of_row w1 _ 3 _ _ e1
  have k4 : w1.frozen? ⟨w.heap.size + 1, 4, none⟩ = false := frozen_of_row w1 _ 4 _ _ e1
  clear e1 e2
  go_wp2
  have hk : ∀ (W : World), W.ownsRow w.heap.size 70 4 (.slice (some ⟨gx, 0, none⟩) n n) n (rowsK n 4 (compCells C)) → ∀ (b j : Nat) (u : Value), b < gx → (W.setCell ⟨b, j, none⟩ u).ownsRow w.heap.size 70 4 (.slice (some ⟨gx, 0, none⟩) n n) n (rowsK n 4 (compCells C)) :=
    fun W h b j u hb => own_sameAt h (fun g e => by simp [Value.ownBlock] at e; subst e; exact Below.heap_setCell _ _ _ _ (by show gx ≠ b; omega))
  have hq : ∀ (W : World) (b j : Nat) (u : Value), w.grownBy W none → w.heap.size ≤ b → w.grownBy (W.setCell ⟨b, j, none⟩ u) none := fun W b j u h hb => grown_new h (grown_set W b j u) (fun g e => by simp at e; omega)
  refine bodyPost_ret (v := .agg #[.int .i64 p, .int .i64 wd, .int .i64 ht, .int .i64 rs, .slice (some ⟨gx, 0, none⟩) n n]) (by simp [results, Try.results21, go_sem, d0, d1, d2, d3, d4]) rfl ⟨gx, rfl, ?_, ?_⟩
  · exact hk _ (hk _ (hk _ (hk _ (hk _ (hk _ (unhide O1) _ _ _ (by omega)) _ _ _ (by omega)) _ _ _ (by omega)) _ _ _ (by omega)) _ _ _ (by omega)) _ _ _ (by omega)
  · exact hq _ _ _ _ (hq _ _ _ _ (hq _ _ _ _ (hq _ _ _ _ (hq _ _ _ _ (hq _ _ _ _ (unhide HG1) (by omega)) (by omega)) (by omega)) (by omega)) (by omega)) (by omega)

end Go.Proofs.Ytibgldanmhckiaa

namespace Go.Proofs.Ytibgldanmhckiaa
open Go.RowKit

/-- Components that are marked all over, from k0 on. -/
def markedC (k0 : Int) : Nat → Nat → Int := fun i j => k0 + 4 * (i : Int) + (j : Int)
theorem markPart_set (C : Nat → Nat → Int) (k0 : Int) (n k : Nat) (q : Int) (hq : k0 + 4 * (k : Int) = q) :
    ((((rowsK n 4 (compCells (fun i j => if i < k then markedC k0 i j else C i j))).set (k * 4) (.int .i64 q)).set (k * 4 + 1) (.int .i64 (q + 1))).set (k * 4 + 2) (.int .i64 (q + 1 + 1))).set (k * 4 + 3) (.int .i64 (q + 1 + 1 + 1)) = rowsK n 4 (compCells (fun i j => if i < k + 1 then markedC k0 i j else C i j)) := by
  have e0 := rowsK_set n 4 (compCells (fun i j => if i < k then markedC k0 i j else C i j)) k 0 (.int .i64 q) (by omega)
  rw [Nat.add_zero] at e0
  rw [e0, rowsK_set _ _ _ k 1 _ (by omega), rowsK_set _ _ _ k 2 _ (by omega), rowsK_set _ _ _ k 3 _ (by omega)]
  apply rowsK_congr
  intro i j _ hj
  have hj4 : j = 0 ∨ j = 1 ∨ j = 2 ∨ j = 3 := by omega
  by_cases e1 : i = k
  · subst e1
    rcases hj4 with rfl | rfl | rfl | rfl <;> simp [compCells, markedC, hq] <;> omega
  · by_cases e2 : i < k
    · rcases hj4 with rfl | rfl | rfl | rfl <;> simp [compCells, e1, e2, show i < k + 1 by omega]
    · rcases hj4 with rfl | rfl | rfl | rfl <;> simp [compCells, e1, e2, show ¬ i < k + 1 by omega]

set_option maxHeartbeats 1600000 in
theorem markCompS (ao : Option Addr) (n cap base : Nat) (C : Nat → Nat → Int) (k0 : Int) (w : World) (ho : w.ownsRow base 70 4 (.slice ao n cap) n (rowsK n 4 (compCells C))) (hn : n ≤ 4194304) (h0 : 0 ≤ k0) (h1 : k0 ≤ 1073741824) :
    Calls Try.prog 63 #[.slice ao n cap, .int .i64 k0] w fun e w' => e = .returned (.int .i64 (k0 + 4 * n)) ∧
      w'.ownsRow base 70 4 (.slice ao n cap) n (rowsK n 4 (compCells (markedC k0))) ∧ w.grownBy w' (Value.slice ao n cap).ownBlock := by
  have ho' : w.ownsRow base 70 4 (.slice ao n cap) n (rowsK n 4 (compCells (fun i j => if i < 0 then markedC k0 i j else C i j))) := by
    have e : rowsK n 4 (compCells (fun i j => if i < 0 then markedC k0 i j else C i j)) = rowsK n 4 (compCells C) := rowsK_congr (fun i j _ _ => by simp [compCells])
    rw [e]; exact ho
  clear ho
  have HO := hide ho'
  clear ho'
  go_enter Try.func63, Try.ntmps63
  go_wp2
  go_loopw [1, 5] (fun c i wr => ∃ k : Nat, k ≤ n ∧ i = .int .i64 k ∧ c = .int .i64 (k0 + 4 * k) ∧ wr.ownsRow base 70 4 (.slice ao n cap) n (rowsK n 4 (compCells (fun i j => if i < k then markedC k0 i j else C i j))) ∧ w.grownBy wr (Value.slice ao n cap).ownBlock) (fun _ i _ => n - (intOf i).toNat)
  case atStart => exact ⟨0, Nat.zero_le _, rfl, by go_num, unhide HO, World.grownBy.refl _ _⟩
  case round =>
    obtain ⟨k, hk, rfl, rfl, hok, hgk⟩ := hrel
    by_cases hlt : k < n
    · obtain ⟨g, rfl, _, _⟩ := own_at hok (by omega)
      obtain ⟨q, hq⟩ : ∃ q, k0 + 4 * (k : Int) = q := ⟨_, rfl⟩
      have HSET := hide (markPart_set C k0 n k q hq)
      have hqb : 0 ≤ q ∧ q ≤ 2000000000 := by omega
      have HQ := hide hq
      rw [hq]
      clear hq
      have f0 := hok.frozenAt (k * 4)
      have f1 := hok.frozenAt (k * 4 + 1)
      have f2 := hok.frozenAt (k * 4 + 2)
      have f3 := hok.frozenAt (k * 4 + 3)
      have hold : ∀ j, j < n * 4 → ∃ u, wr.cell? ⟨g, j, none⟩ = some u := fun j hj => by rw [hok.cellAt j hj]; exact ⟨_, List.getElem?_eq_getElem (by rw [hok.1]; omega)⟩
      obtain ⟨v0, hv0⟩ := hold (k * 4) (by omega)
      obtain ⟨v1, hv1⟩ := hold (k * 4 + 1) (by omega)
      obtain ⟨v2, hv2⟩ := hold (k * 4 + 2) (by omega)
      obtain ⟨v3, hv3⟩ := hold (k * 4 + 3) (by omega)
      have s0 := hok.stored (k * 4) (.int .i64 q)
      have s1 := s0.1.stored (k * 4 + 1) (.int .i64 (q + 1))
      have s2 := s1.1.stored (k * 4 + 2) (.int .i64 (q + 1 + 1))
      have s3 := s2.1.stored (k * 4 + 3) (.int .i64 (q + 1 + 1 + 1))
      have HG := hide (grown_trans hgk (grown_trans (grown_trans (grown_trans s0.2 s1.2) s2.2) s3.2))
      have HS := hide s3.1
      rw [unhide HSET] at HS
      clear s0 s1 s2 s3 hok hgk hold HSET
      go_wp2
      go_roundw
      case rel => exact ⟨k + 1, by omega, by go_num, by have := unhide HQ; congr 1; omega, unhide HS, unhide HG⟩
      case measure => simp [intOf]; omega
    · have hkn : k = n := by omega
      subst hkn
      go_wp2
      go_ret
      refine ⟨rfl, ?_, hgk⟩
      have e : rowsK k 4 (compCells (markedC k0)) = rowsK k 4 (compCells (fun i j => if i < k then markedC k0 i j else C i j)) := rowsK_congr (fun i j hi' _ => by simp [compCells, hi'])
      rw [e]; exact hok

set_option maxHeartbeats 1600000 in
theorem markFrame (p wd ht rs : Int) (ao : Option Addr) (n cap base : Nat) (C : Nat → Nat → Int) (k0 : Int) (w : World) (ho : w.ownsRow base 70 4 (.slice ao n cap) n (rowsK n 4 (compCells C))) (hn : n ≤ 4194304) (h0 : 0 ≤ k0) (h1 : k0 ≤ 1073741824) :
    Calls Try.prog 24 #[.agg #[.int .i64 p, .int .i64 wd, .int .i64 ht, .int .i64 rs, .slice ao n cap], .int .i64 k0] w fun e w' => e = .returned (.int .i64 (k0 + 4 * n)) ∧
      w'.ownsRow base 70 4 (.slice ao n cap) n (rowsK n 4 (compCells (markedC k0))) ∧ w.grownBy w' (Value.slice ao n cap).ownBlock := by
  have HO := hide (own_grown ho (grown_alloc (World.grownBy.refl w none) (.cells #[.int .i64 p, .int .i64 wd, .int .i64 ht, .int .i64 rs, .slice ao n cap] 26)))
  have G : Hid (w.grownBy (w.alloc (.cells #[.int .i64 p, .int .i64 wd, .int .i64 ht, .int .i64 rs, .slice ao n cap] 26)) (Value.slice ao n cap).ownBlock) := grown_any (grown_alloc (World.grownBy.refl _ _) _)
  clear ho
  go_enter Try.func24, Try.ntmps24
  go_wp2_with fail
  refine (markCompS ao n cap base C k0 _ (unhide HO) hn h0 h1).mono ?_
  rintro e w1 ⟨rfl, o1, g1⟩
  have O1 := hide o1
  have G1 := hide (grown_trans (unhide G) g1)
  clear o1 g1
  go_wp2
  go_ret
  exact ⟨rfl, unhide O1, unhide G1⟩

end Go.Proofs.Ytibgldanmhckiaa

namespace Go.Proofs.Ytibgldanmhckiaa
open Go.RowKit

/-- Coefficients that are owned, in a box. -/
structure Bc (W : World) (b : Nat) (v : Value) (X : List (List (List Int))) (F : List Nat) : Prop where
  box : W.heap[b]? = some (.cells #[v] 29 (0, 0))
  own : OwCo W (.agg #[v]) X F
theorem Bc.lt {W : World} {b : Nat} {v : Value} {X : List (List (List Int))} {F : List Nat} (h : Bc W b v X F) : b < W.heap.size := (Array.getElem?_eq_some_iff.1 h.box).1
theorem Bc.wr {W W' : World} {b : Nat} {v : Value} {X : List (List (List Int))} {F G : List Nat} (h : Bc W b v X F) (g : Wr G W W') (hb : b ∉ G) (hd : ∀ x ∈ F, x ∉ G) : Bc W' b v X F := ⟨(g.block b h.lt hb).trans h.box, h.own.wr g hd⟩
theorem Bc.keep {W W' : World} {b : Nat} {v : Value} {X : List (List (List Int))} {F : List Nat} (h : Bc W b v X F) (g : W.grownBy W' none) : Bc W' b v X F := ⟨(g.block b h.lt (by simp)).trans h.box, h.own.keep g⟩
theorem Bc.cell {W : World} {b : Nat} {v : Value} {X : List (List (List Int))} {F : List Nat} (h : Bc W b v X F) : W.cell? ⟨b, 0, none⟩ = some v := by rw [cell_of_row W b 0 _ _ (0, 0) h.box]; rfl
theorem Bc.new {W : World} {v : Value} {X : List (List (List Int))} {F : List Nat} (h : OwCo W (.agg #[v]) X F) : Bc (W.alloc (.cells #[v] 29)) W.heap.size v X F := ⟨heap_alloc_new W _, h.keep (World.grownBy_alloc _ _ _)⟩
theorem Bc.form {W : World} {v : Value} {X : List (List (List Int))} {F : List Nat} (h : OwCo W v X F) : ∃ so sc, v = .agg #[.slice so X.length sc] := by
  obtain ⟨u, rfl, h⟩ := h
  obtain ⟨so, sc, rfl⟩ := h.form
  exact ⟨so, sc, rfl⟩

/-- A frame that is owned, in a box. -/
structure Bf (W : World) (b : Nat) (p wd ht rs : Int) (q n base : Nat) (C : Nat → Nat → Int) : Prop where
  box : W.heap[b]? = some (.cells #[.int .i64 p, .int .i64 wd, .int .i64 ht, .int .i64 rs, .slice (some ⟨q, 0, none⟩) n n] 26 (0, 0))
  own : W.ownsRow base 70 4 (.slice (some ⟨q, 0, none⟩) n n) n (rowsK n 4 (compCells C))
section
variable {W W' : World} {b q n base : Nat} {p wd ht rs : Int} {C : Nat → Nat → Int}
theorem Bf.lt (h : Bf W b p wd ht rs q n base C) : b < W.heap.size := (Array.getElem?_eq_some_iff.1 h.box).1
theorem Bf.keep (h : Bf W b p wd ht rs q n base C) (g : W.grownBy W' none) : Bf W' b p wd ht rs q n base C := ⟨(g.block b h.lt (by simp)).trans h.box, own_grown h.own g⟩
theorem Bf.new (h : W.ownsRow base 70 4 (.slice (some ⟨q, 0, none⟩) n n) n (rowsK n 4 (compCells C))) (p wd ht rs : Int) : Bf (W.alloc (.cells #[.int .i64 p, .int .i64 wd, .int .i64 ht, .int .i64 rs, .slice (some ⟨q, 0, none⟩) n n] 26)) W.heap.size p wd ht rs q n base C :=
  ⟨heap_alloc_new W _, own_grown h (World.grownBy_alloc _ _ _)⟩
theorem Bf.rd (h : Bf W b p wd ht rs q n base C) : RdC W (some ⟨q, 0, none⟩) n C := own_rdC h.own
end

end Go.Proofs.Ytibgldanmhckiaa

namespace Go.Proofs.Ytibgldanmhckiaa
open Go.RowKit

theorem RdCz.st {w w' : World} {u : Value} {X : List (List (List Int))} (h : RdCz w u X) (g : w.grownBy w' none) : RdCz w' u X := by
  have s1 : StR (RdZ (RdI .i64)) := fun _ _ _ _ h g => ⟨RdI.st .i64 _ _ _ _ h.1 g, h.2⟩
  have s2 : StR (RdZ (RdR (RdZ (RdI .i64)))) := fun _ _ _ _ h g => ⟨RdR.st s1 _ _ _ _ h.1 g, h.2⟩
  have s3 : StR (RdZ (RdR (RdZ (RdR (RdZ (RdI .i64)))))) := fun _ _ _ _ h g => ⟨RdR.st s2 _ _ _ _ h.1 g, h.2⟩
  obtain ⟨v, e, h⟩ := h
  exact ⟨v, e, s3 _ _ _ _ h g⟩

/-- What came in, in its two boxes. -/
structure In2 (w W : World) (bs : Array Value) (v : Value) : Prop where
  fb : W.heap[w.heap.size]? = some (.cells bs 46 (0, 0))
  cb : W.heap[w.heap.size + 1]? = some (.cells #[v] 53 (0, 0))
  grown : w.grownBy W none
theorem In2.new {w W W' : World} {bs : Array Value} {v : Value} (h : In2 w W bs v) (g : W.grownBy W' none) : In2 w W' bs v := ⟨grown_atT g h.fb (by simp), grown_atT g h.cb (by simp), grown_trans h.grown g⟩
theorem In2.size {w W : World} {bs : Array Value} {v : Value} (h : In2 w W bs v) : w.heap.size + 2 ≤ W.heap.size := by have := (Array.getElem?_eq_some_iff.1 h.cb).1; omega
theorem In2.wr {w W W' : World} {bs : Array Value} {v : Value} {F : List Nat} (h : In2 w W bs v) (g : Wr F W W') (hF : ∀ x ∈ F, w.heap.size + 2 ≤ x) : In2 w W' bs v := by
  have hs := h.size
  exact ⟨(g.block _ (by omega) (fun e => by have := hF _ e; omega)).trans h.fb, (g.block _ (by omega) (fun e => by have := hF _ e; omega)).trans h.cb, Wr.new h.grown g (fun x hx => by have := hF x hx; omega)⟩
theorem In2.start (w : World) (bs : Array Value) (v : Value) : In2 w ((w.alloc (.cells bs 46)).alloc (.cells #[v] 53)) bs v := by
  refine ⟨?_, ?_, grown_alloc (grown_alloc (World.grownBy.refl _ _) _) _⟩
  · rw [Below.heap_alloc _ _ _ (by simp)]
    exact heap_alloc_new w _
  · have := heap_alloc_new (w.alloc (.cells bs 46)) (.cells #[v] 53)
    simpa using this
theorem In2.cell {w W : World} {bs : Array Value} {v : Value} (h : In2 w W bs v) : W.cell? ⟨w.heap.size + 1, 0, none⟩ = some v := by rw [cell_of_row W _ 0 _ _ (0, 0) h.cb]; rfl

set_option maxRecDepth 20000 in
set_option maxHeartbeats 3200000 in
theorem lawCoefsOk (HI : Hid ImplCoefsOk) (p wd ht rs : Int) (ao : Option Addr) (n cap : Nat) (C : Nat → Nat → Int) (v : Value) (X : List (List (List Int))) (w : World) (hr : RdC w ao n C) (hm : n ≤ maxLen) (hx : RdCz w (.agg #[v]) X) :
    Calls Try.prog 5 #[.agg #[.int .i64 p, .int .i64 wd, .int .i64 ht, .int .i64 rs, .slice ao n cap], .agg #[v]] w fun e w' => e = .returned (.bool true) ∧ Below w.heap.size w w' := by
  unfold maxLen at hm
  obtain ⟨xo, xc, rfl⟩ : ∃ xo xc, v = .slice xo X.length xc := by
    obtain ⟨v', e, h⟩ := hx
    obtain ⟨xo, xc, e2, _⟩ := h.1
    have : v = v' := by simpa using e
    exact ⟨xo, xc, this.trans e2⟩
  obtain ⟨m, HM⟩ : ∃ m, Hid (X.length = m) := ⟨_, rfl⟩
  rw [unhide HM] at hx ⊢
  have HR := hide hr
  have HX := hide hx
  clear hr hx
  obtain ⟨fb, HFB⟩ : ∃ fb, Hid (frameB p wd ht rs n C = fb) := ⟨_, rfl⟩
  obtain ⟨b, HB⟩ : ∃ b, Hid (coefsOkF fb wd ht n C X = b) := ⟨_, rfl⟩
  have I0 := hide (In2.start w #[.int .i64 p, .int .i64 wd, .int .i64 ht, .int .i64 rs, .slice ao n cap] (.slice xo m xc))
  have c0 := (unhide I0).cell
  have ca := frameCells (unhide I0).fb
  by_cases hbig : (n : Int) ≤ 1048576
  · obtain ⟨lf, hlf⟩ : ∃ lf : Nat, (1048576 : Int) - (n : Int) = (lf : Int) := ⟨1048576 - n, by omega⟩
    have HSZ : Hid ((if (n : Int) ≤ 1048576 then 1048576 - (n : Int) else -1) = (lf : Int)) := (if_pos hbig).trans hlf
    have hneg : decide ((lf : Int) < 0) = false := decide_eq_false (by omega)
    have hn : n ≤ 4194304 := by omega
    have hl1 : lf ≤ 1048576 := by omega
    clear hlf
    by_cases hsz : szCo X ≤ lf
    · obtain ⟨r, HR2⟩ : ∃ r : Int, Hid ((if szCo X ≤ lf then (lf : Int) - szCo X else -1) = r) := ⟨_, rfl⟩
      have hr2 : decide (r < 0) = false := decide_eq_false (by have := unhide HR2; rw [if_pos hsz] at this; omega)
      have hs : szCo X ≤ 1048576 := by omega
      have hbb : (b != b) = false := by simp
      go_enter Try.func5, Try.ntmps5
      go_wp2_with fail
      generalize ((w.alloc (.cells #[.int .i64 p, .int .i64 wd, .int .i64 ht, .int .i64 rs, .slice ao n cap] 46)).alloc (.cells #[.slice xo m xc] 53)) = wx at *
      refine (szFrame p wd ht rs ao n cap 1048576 _ wx (by omega) (by omega) (by omega) HSZ).mono ?_
      rintro e w1 ⟨rfl, g1⟩
      have I1 := hide ((unhide I0).new g1)
      clear c0 ca g1 I0
      have c0 := (unhide I1).cell
      go_wp2_with fail
      refine (szCoefsC w1 _ X lf ((unhide HX).st (unhide I1).grown) hl1 r HR2).mono ?_
      rintro e w2 ⟨rfl, g2⟩
      have I2 := hide ((unhide I1).new g2)
      clear c0 g2 I1
      go_wp2
      refine wp_region_noPanic ?_
      refine wp_region_tailL 20 (fun W => In2 w W #[.int .i64 p, .int .i64 wd, .int .i64 ht, .int .i64 rs, .slice ao n cap] (.slice xo m xc)) [true, false, true, false, false, false] (by kernel_rfl) (fun _ _ _ _ _ h => h) rfl (by decide) (by kernel_rfl) ((unhide I2).new (grown_drew (World.grownBy.refl _ _))) ?_
      have I3 := hide ((unhide I2).new (grown_drew (World.grownBy.refl _ _)))
      clear I2
      generalize w2.drew = w3 at *
      refine heldF_take (v := ?_) (Or.inl ⟨by rfl, ?_⟩) ?_
      rotate_left 1
      · intro w' hSw
        try dsimp only at hSw
        have s1 := frameCells hSw.fb
        go_simp
        try with_reducible rfl
      simp only [Act.put, List.setIfInBounds_toArray, List.set_cons_zero, List.set_cons_succ]
      refine heldF_skip ?_
      refine heldF_take (v := ?_) (Or.inl ⟨by rfl, ?_⟩) ?_
      rotate_left 1
      · intro w' hSw
        try dsimp only at hSw
        have s1 := hSw.cell
        go_simp
        try with_reducible rfl
      simp only [Act.put, List.setIfInBounds_toArray, List.set_cons_zero, List.set_cons_succ]
      refine heldF_skip (heldF_skip (heldF_skip (heldF_nil ?_)))
      refine tailL_skip (tailL_step (fun K hK => ?_))
      go_simp
      refine (toFrame p wd ht rs ao n cap C w3 ((unhide HR).grown (unhide I3).grown) hn).mono ?_
      rintro e w4 ⟨q1, rfl, o4, g4⟩
      have I4 := hide ((unhide I3).new g4)
      have RF := hide (own_rdC o4)
      clear I3 g4 o4
      go_simp
      refine hK.out _ _ (.inr (unhide I4)) ?_
      clear hK K
      refine tailL_skip (tailL_step (fun K hK => ?_))
      go_simp
      refine (toCoefsC w4 _ X ((unhide HX).st (unhide I4).grown).rd hs).mono ?_
      rintro e w5 ⟨u5, F5, rfl, o5, n5, l5, g5⟩
      obtain ⟨vo, vc, rfl⟩ := Bc.form o5
      rw [unhide HM] at o5 ⊢
      have I5 := hide ((unhide I4).new g5)
      have RF5 := hide ((unhide RF).grown g5)
      obtain ⟨v5, e5, r5⟩ := o5.rd
      obtain rfl : Value.slice vo m vc = v5 := by simpa using e5
      have RX5 := hide r5
      clear I4 g5 o5 n5 l5 RF e5 r5
      go_simp
      refine hK.out _ _ (.inr (unhide I5)) ?_
      clear hK K
      refine tailL_step (fun K hK => ?_)
      go_simp
      refine (specCoefsOk p wd ht rs _ n n C _ X w5 (unhide RF5) (unhide RX5) hs fb b HFB HB).mono ?_
      rintro e w6 ⟨rfl, g6⟩
      have I6 := hide ((unhide I5).new g6)
      clear I5 RF5 RX5 g6
      go_simp
      refine hK.out _ _ (.inr (unhide I6)) ?_
      clear hK K
      refine tailL_step (fun K hK => ?_)
      go_simp
      refine hK.out _ _ (.inl rfl) ?_
      clear hK K
      refine tailL_nil (NoPanic.normal ?_)
      have ca := frameCells (unhide I6).fb
      go_wp2_with fail
      refine (toFrame p wd ht rs ao n cap C w6 ((unhide HR).grown (unhide I6).grown) hn).mono ?_
      rintro e w7 ⟨q2, rfl, o7, g7⟩
      have g8 := grown_alloc g7 (.cells #[.int .i64 p, .int .i64 wd, .int .i64 ht, .int .i64 rs, .slice (some ⟨q2, 0, none⟩) n n] 26)
      have I8 := hide ((unhide I6).new g8)
      have HF8 := hide (Bf.new o7 p wd ht rs)
      have c0 := (unhide I8).cell
      clear ca g7 g8 o7 I6
      go_wp2_with fail
      generalize (w7.alloc (.cells #[.int .i64 p, .int .i64 wd, .int .i64 ht, .int .i64 rs, .slice (some ⟨q2, 0, none⟩) n n] 26)) = w8 at *
      refine (toCoefsC w8 _ X ((unhide HX).st (unhide I8).grown).rd hs).mono ?_
      rintro e w9 ⟨u9, F9, rfl, o9, n9, l9, g9⟩
      obtain ⟨yo, yc, rfl⟩ := Bc.form o9
      rw [unhide HM] at o9 ⊢
      have ga := grown_alloc g9 (.cells #[.slice yo m yc] 29)
      have Ia := hide ((unhide I8).new ga)
      have HFa := hide ((unhide HF8).keep ga)
      have HCa := hide (Bc.new o9)
      have cx := frameCells (unhide HFa).box
      have cy := (unhide HCa).cell
      clear c0 g9 ga o9 n9 l9 I8 HF8
      go_wp2_with fail
      generalize (w9.alloc (.cells #[.slice yo m yc] 29)) = wa at *
      obtain ⟨v9, e9, r9⟩ := (unhide HCa).own.rd
      obtain rfl : Value.slice yo m yc = v9 := by simpa using e9
      refine (unhide HI p wd ht rs _ n n C _ X wa (unhide HFa).rd hn r9 hs fb b HFB HB).mono ?_
      rintro e wb ⟨rfl, gb⟩
      have Ib := hide ((unhide Ia).new gb)
      have HFb := hide ((unhide HFa).keep gb)
      have HCb := hide ((unhide HCa).keep gb)
      clear cx cy e9 r9 gb Ia HFa HCa
      go_wp2
      refine wp_region_noPanic ?_
      have gd := grown_drew (World.grownBy.refl wb none)
      have Ic := hide ((unhide Ib).new gd)
      have HFc := hide ((unhide HFb).keep gd)
      have HCc := hide ((unhide HCb).keep gd)
      clear gd Ib HFb HCb
      refine wp_region_tailL 20 (fun W => In2 w W #[.int .i64 p, .int .i64 wd, .int .i64 ht, .int .i64 rs, .slice ao n cap] (.slice xo m xc) ∧ Bf W w7.heap.size p wd ht rs q2 n w6.heap.size C) [true, true, false, false, false] (by kernel_rfl) (fun _ _ _ _ _ h => h) rfl (by decide) (by kernel_rfl) ⟨unhide Ic, unhide HFc⟩ ?_
      generalize wb.drew = wc1 at *
      refine heldF_take (v := ?_) (Or.inl ⟨by rfl, ?_⟩) ?_
      rotate_left 1
      · intro w' hSw
        try dsimp only at hSw
        have s1 := frameCells hSw.2.box
        go_simp
        try with_reducible rfl
      simp only [Act.put, List.setIfInBounds_toArray, List.set_cons_zero, List.set_cons_succ]
      refine heldF_take (v := ?_) (Or.inl ⟨by rfl, ?_⟩) ?_
      rotate_left 1
      · intro w' hSw
        try dsimp only at hSw
        have s1 := frameCells hSw.1.fb
        go_simp
        try with_reducible rfl
      simp only [Act.put, List.setIfInBounds_toArray, List.set_cons_zero, List.set_cons_succ]
      refine heldF_skip (heldF_skip (heldF_skip (heldF_nil ?_)))
      refine tailL_skip (tailL_skip (tailL_step (fun K hK => ?_)))
      go_simp
      refine (toFrame p wd ht rs ao n cap C wc1 ((unhide HR).grown (unhide Ic).grown) hn).mono ?_
      rintro e wd1 ⟨q3, rfl, od, gd⟩
      have Id := hide ((unhide Ic).new gd)
      have HFd := hide ((unhide HFc).keep gd)
      have HCd := hide ((unhide HCc).keep gd)
      have RD := hide (own_rdC od)
      clear Ic HFc HCc gd od
      go_simp
      refine hK.out _ _ (.inr ⟨unhide Id, unhide HFd⟩) ?_
      clear hK K
      refine tailL_step (fun K hK => ?_)
      go_simp
      refine (eqFrame p wd ht rs _ _ n n n C wd1 (unhide HFd).rd (unhide RD) hn).mono ?_
      rintro e we ⟨rfl, ge⟩
      have Ie := hide ((unhide Id).new ge)
      have HFe := hide ((unhide HFd).keep ge)
      have HCe := hide ((unhide HCd).keep ge)
      clear Id HFd HCd ge RD
      go_simp
      refine hK.out _ _ (.inr ⟨unhide Ie, unhide HFe⟩) ?_
      clear hK K
      refine tailL_step (fun K hK => ?_)
      go_simp
      refine hK.out _ _ (.inl rfl) ?_
      clear hK K HFe
      refine tailL_nil (NoPanic.normal ?_)
      go_wp2
      refine wp_region_noPanic ?_
      have gd := grown_drew (World.grownBy.refl we none)
      have If := hide ((unhide Ie).new gd)
      have HCf := hide ((unhide HCe).keep gd)
      clear gd Ie HCe
      refine wp_region_tailL 20 (fun W => In2 w W #[.int .i64 p, .int .i64 wd, .int .i64 ht, .int .i64 rs, .slice ao n cap] (.slice xo m xc) ∧ W.cell? ⟨w9.heap.size, 0, none⟩ = some (.slice yo m yc)) [true, true, false, false, false] (by kernel_rfl) (fun _ _ _ _ _ h => h) rfl (by decide) (by kernel_rfl) ⟨unhide If, (unhide HCf).cell⟩ ?_
      generalize we.drew = wf at *
      refine heldF_take (v := ?_) (Or.inl ⟨by rfl, ?_⟩) ?_
      rotate_left 1
      · intro w' hSw
        try dsimp only at hSw
        have s1 := hSw.2
        go_simp
        try with_reducible rfl
      simp only [Act.put, List.setIfInBounds_toArray, List.set_cons_zero, List.set_cons_succ]
      refine heldF_take (v := ?_) (Or.inl ⟨by rfl, ?_⟩) ?_
      rotate_left 1
      · intro w' hSw
        try dsimp only at hSw
        have s1 := hSw.1.cell
        go_simp
        try with_reducible rfl
      simp only [Act.put, List.setIfInBounds_toArray, List.set_cons_zero, List.set_cons_succ]
      refine heldF_skip (heldF_skip (heldF_skip (heldF_nil ?_)))
      refine tailL_skip (tailL_skip (tailL_step (fun K hK => ?_)))
      go_simp
      refine (toCoefsC wf _ X ((unhide HX).st (unhide If).grown).rd hs).mono ?_
      rintro e wg ⟨ug, Fg, rfl, og, ng, lg, gg⟩
      obtain ⟨zo, zc, rfl⟩ := Bc.form og
      rw [unhide HM] at og ⊢
      have Ig := hide ((unhide If).new gg)
      have HCg := hide ((unhide HCf).keep gg)
      have OG := hide og.rd
      clear If HCf gg og ng lg
      go_simp
      refine hK.out _ _ (.inr ⟨unhide Ig, (unhide HCg).cell⟩) ?_
      clear hK K
      refine tailL_step (fun K hK => ?_)
      go_simp
      refine (eqCoefsC wg _ _ X (unhide HCg).own.rd (unhide OG) hs).mono ?_
      rintro e wh ⟨rfl, gh⟩
      have Ih := hide ((unhide Ig).new gh)
      have HCh := hide ((unhide HCg).keep gh)
      clear Ig HCg gh OG
      go_simp
      refine hK.out _ _ (.inr ⟨unhide Ih, (unhide HCh).cell⟩) ?_
      clear hK K
      refine tailL_step (fun K hK => ?_)
      go_simp
      refine hK.out _ _ (.inl rfl) ?_
      clear hK K
      refine tailL_nil (NoPanic.normal ?_)
      go_wp2
      go_ret
      exact ⟨rfl, grown_below (unhide Ih).grown⟩
    · obtain ⟨r, HR2⟩ : ∃ r : Int, Hid ((if szCo X ≤ lf then (lf : Int) - szCo X else -1) = r) := ⟨_, rfl⟩
      have hr2 : decide (r < 0) = true := decide_eq_true (by have := unhide HR2; rw [if_neg hsz] at this; omega)
      go_enter Try.func5, Try.ntmps5
      go_wp2_with fail
      generalize ((w.alloc (.cells #[.int .i64 p, .int .i64 wd, .int .i64 ht, .int .i64 rs, .slice ao n cap] 46)).alloc (.cells #[.slice xo m xc] 53)) = wx at *
      refine (szFrame p wd ht rs ao n cap 1048576 _ wx (by omega) (by omega) (by omega) HSZ).mono ?_
      rintro e w1 ⟨rfl, g1⟩
      have I1 := hide ((unhide I0).new g1)
      clear c0 ca g1 I0
      have c0 := (unhide I1).cell
      go_wp2_with fail
      refine (szCoefsC w1 _ X lf ((unhide HX).st (unhide I1).grown) hl1 r HR2).mono ?_
      rintro e w2 ⟨rfl, g2⟩
      have I2 := hide ((unhide I1).new g2)
      clear c0 g2 I1
      go_wp2
      go_ret
      exact ⟨rfl, grown_below (unhide I2).grown⟩
  · have HSZ : Hid ((if (n : Int) ≤ 1048576 then 1048576 - (n : Int) else -1) = -1) := if_neg hbig
    go_enter Try.func5, Try.ntmps5
    go_wp2_with fail
    generalize ((w.alloc (.cells #[.int .i64 p, .int .i64 wd, .int .i64 ht, .int .i64 rs, .slice ao n cap] 46)).alloc (.cells #[.slice xo m xc] 53)) = wx at *
    refine (szFrame p wd ht rs ao n cap 1048576 _ wx (by omega) (by omega) (by omega) HSZ).mono ?_
    rintro e w1 ⟨rfl, g1⟩
    have I1 := hide ((unhide I0).new g1)
    clear c0 ca g1 I0
    go_wp2
    go_ret
    exact ⟨rfl, grown_below (unhide I1).grown⟩

end Go.Proofs.Ytibgldanmhckiaa

namespace Go.Proofs.Ytibgldanmhckiaa
open Go.RowKit

structure In3 (w W : World) (bs : Array Value) (v : Value) (ps : Array Value) : Prop where
  fb : W.heap[w.heap.size]? = some (.cells bs 46 (0, 0))
  cb : W.heap[w.heap.size + 1]? = some (.cells #[v] 53 (0, 0))
  pb : W.heap[w.heap.size + 1 + 1]? = some (.cells ps 57 (0, 0))
  grown : w.grownBy W none
theorem In3.new {w W W' : World} {bs ps : Array Value} {v : Value} (h : In3 w W bs v ps) (g : W.grownBy W' none) : In3 w W' bs v ps := ⟨grown_atT g h.fb (by simp), grown_atT g h.cb (by simp), grown_atT g h.pb (by simp), grown_trans h.grown g⟩
theorem In3.size {w W : World} {bs ps : Array Value} {v : Value} (h : In3 w W bs v ps) : w.heap.size + 3 ≤ W.heap.size := by have := (Array.getElem?_eq_some_iff.1 h.pb).1; omega
theorem In3.wr {w W W' : World} {bs ps : Array Value} {v : Value} {F : List Nat} (h : In3 w W bs v ps) (g : Wr F W W') (hF : ∀ x ∈ F, w.heap.size + 3 ≤ x) : In3 w W' bs v ps := by
  have hs := h.size
  exact ⟨(g.block _ (by omega) (fun e => by have := hF _ e; omega)).trans h.fb, (g.block _ (by omega) (fun e => by have := hF _ e; omega)).trans h.cb, (g.block _ (by omega) (fun e => by have := hF _ e; omega)).trans h.pb, Wr.new h.grown g (fun x hx => by have := hF x hx; omega)⟩
theorem In3.start (w : World) (bs : Array Value) (v : Value) (ps : Array Value) : In3 w (((w.alloc (.cells bs 46)).alloc (.cells #[v] 53)).alloc (.cells ps 57)) bs v ps := by
  refine ⟨?_, ?_, ?_, grown_alloc (grown_alloc (grown_alloc (World.grownBy.refl _ _) _) _) _⟩
  · rw [Below.heap_alloc _ _ _ (by first | (simp; done) | (simp; omega)), Below.heap_alloc _ _ _ (by simp)]
    exact heap_alloc_new w _
  · rw [Below.heap_alloc _ _ _ (by simp)]
    have := heap_alloc_new (w.alloc (.cells bs 46)) (.cells #[v] 53)
    simpa using this
  · have := heap_alloc_new ((w.alloc (.cells bs 46)).alloc (.cells #[v] 53)) (.cells ps 57)
    simpa using this
theorem In3.cell {w W : World} {bs ps : Array Value} {v : Value} (h : In3 w W bs v ps) : W.cell? ⟨w.heap.size + 1, 0, none⟩ = some v := by rw [cell_of_row W _ 0 _ _ (0, 0) h.cb]; rfl
theorem In3.place {w W : World} {bs : Array Value} {a b c v : Value} (h : In3 w W bs v #[a, b, c]) : W.cell? ⟨w.heap.size + 1 + 1, 0, none⟩ = some a ∧ W.cell? ⟨w.heap.size + 1 + 1, 1, none⟩ = some b ∧ W.cell? ⟨w.heap.size + 1 + 1, 2, none⟩ = some c :=
  ⟨by rw [cell_of_row W _ 0 _ _ (0, 0) h.pb]; rfl, by rw [cell_of_row W _ 1 _ _ (0, 0) h.pb]; rfl, by rw [cell_of_row W _ 2 _ _ (0, 0) h.pb]; rfl⟩

set_option maxHeartbeats 1600000 in
theorem toPlace (co ro cl : Int) (w : World) :
    Calls Try.prog 30 #[.agg #[.int .i64 co, .int .i64 ro, .int .i64 cl]] w fun e w' => e = .returned (.agg #[.int .i64 co, .int .i64 ro, .int .i64 cl]) ∧ w.grownBy w' none := by
  go_enter Try.func30, Try.ntmps30
  go_wp2
  refine bodyPost_ret (v := .agg #[.int .i64 co, .int .i64 ro, .int .i64 cl]) (by simp [results, Try.results30, go_sem]) rfl ?_
  exact ⟨rfl, grown_alloc (grown_alloc (grown_alloc (World.grownBy.refl _ _) _) _) _⟩

theorem blockAt_len (b : Bool) (wd ht : Int) (n : Nat) (C : Nat → Nat → Int) (X : List (List (List Int))) (co ro cl : Int) : (blockAtF b wd ht n C X co ro cl).length ≤ 64 := by
  unfold blockAtF
  split
  · rename_i h
    unfold coefsOkF at h
    rw [Bool.and_eq_true] at h
    split
    · rename_i k hpl
      obtain ⟨c, r, l, rfl, rfl, rfl, hcn, -, -, -, hkb⟩ := place_in hpl
      obtain ⟨hX, hl, hb⟩ := ok_plane h.2 c hcn
      have hk : k < X[c].length := by omega
      have e : (X.getD (c : Int).toNat []).getD k [] = X[c][k] := by simp [hX, hk]
      rw [e, block_len (hb k hk)]
      exact Nat.le_refl _
    · simp
  · simp

end Go.Proofs.Ytibgldanmhckiaa

namespace Go.Proofs.Ytibgldanmhckiaa
open Go.RowKit

set_option maxRecDepth 20000 in
set_option maxHeartbeats 6400000 in
theorem lawBlockAt (HI : Hid ImplBlockAt) (p wd ht rs : Int) (ao : Option Addr) (n cap : Nat) (C : Nat → Nat → Int) (v : Value) (X : List (List (List Int))) (co ro cl : Int) (w : World) (hr : RdC w ao n C) (hm : n ≤ maxLen) (hx : RdCz w (.agg #[v]) X) :
    Calls Try.prog 6 #[.agg #[.int .i64 p, .int .i64 wd, .int .i64 ht, .int .i64 rs, .slice ao n cap], .agg #[v], .agg #[.int .i64 co, .int .i64 ro, .int .i64 cl]] w fun e w' => e = .returned (.bool true) ∧ Below w.heap.size w w' := by
  unfold maxLen at hm
  obtain ⟨xo, xc, rfl⟩ : ∃ xo xc, v = .slice xo X.length xc := by
    obtain ⟨v', e, h⟩ := hx
    obtain ⟨xo, xc, e2, _⟩ := h.1
    have : v = v' := by simpa using e
    exact ⟨xo, xc, this.trans e2⟩
  obtain ⟨m, HM⟩ : ∃ m, Hid (X.length = m) := ⟨_, rfl⟩
  rw [unhide HM] at hx ⊢
  have HR := hide hr
  have HX := hide hx
  clear hr hx
  obtain ⟨fb, HFB⟩ : ∃ fb, Hid (frameB p wd ht rs n C = fb) := ⟨_, rfl⟩
  obtain ⟨L, HL⟩ : ∃ L, Hid (blockAtF fb wd ht n C X co ro cl = L) := ⟨_, rfl⟩
  have hL1 : L.length ≤ 64 := by rw [← unhide HL]; exact blockAt_len _ _ _ _ _ _ _ _ _
  have hL : lenI L ≤ 1048576 := by unfold lenI; omega
  have hneg2 : decide (1 + (lenI L : Int) < 0) = false := decide_eq_false (by omega)
  have hcX := cnt_sz X
  have I0 := hide (In3.start w #[.int .i64 p, .int .i64 wd, .int .i64 ht, .int .i64 rs, .slice ao n cap] (.slice xo m xc) #[.int .i64 co, .int .i64 ro, .int .i64 cl])
  have c0 := (unhide I0).cell
  have ca := frameCells (unhide I0).fb
  by_cases hbig : (n : Int) ≤ 1048576
  · obtain ⟨lf, hlf⟩ : ∃ lf : Nat, (1048576 : Int) - (n : Int) = (lf : Int) := ⟨1048576 - n, by omega⟩
    have HSZ : Hid ((if (n : Int) ≤ 1048576 then 1048576 - (n : Int) else -1) = (lf : Int)) := (if_pos hbig).trans hlf
    have hneg : decide ((lf : Int) < 0) = false := decide_eq_false (by omega)
    have hn : n ≤ 4194304 := by omega
    have hl1 : lf ≤ 1048576 := by omega
    clear hlf
    obtain ⟨r, HR2⟩ : ∃ r : Int, Hid ((if szCo X ≤ lf then (lf : Int) - szCo X else -1) = r) := ⟨_, rfl⟩
    by_cases hsz : szCo X ≤ lf
    · have hr2 : decide (r < 0) = false := decide_eq_false (by have := unhide HR2; rw [if_pos hsz] at this; omega)
      have hs : szCo X ≤ 1048576 := by omega
      have hk0 : 0 ≤ 1 + 4 * (n : Int) := by omega
      have hk1 : 1 + 4 * (n : Int) + (cntCo X : Int) ≤ 8388608 := by omega
      have hk2 : decide (1 + 4 * (n : Int) + (cntCo X : Int) < 0) = false := decide_eq_false (by omega)
      go_enter Try.func6, Try.ntmps6
      go_wp2_with fail
      generalize (((w.alloc (.cells #[.int .i64 p, .int .i64 wd, .int .i64 ht, .int .i64 rs, .slice ao n cap] 46)).alloc (.cells #[.slice xo m xc] 53)).alloc (.cells #[.int .i64 co, .int .i64 ro, .int .i64 cl] 57)) = wx at *
      refine (szFrame p wd ht rs ao n cap 1048576 _ wx (by omega) (by omega) (by omega) HSZ).mono ?_
      rintro e wy ⟨rfl, g1⟩
      have I1 := hide ((unhide I0).new g1)
      clear c0 ca g1 I0
      have c0 := (unhide I1).cell
      go_wp2_with fail
      refine (szCoefsC wy _ X lf ((unhide HX).st (unhide I1).grown) hl1 r HR2).mono ?_
      rintro e w2 ⟨rfl, g2⟩
      have I2 := hide ((unhide I1).new g2)
      clear c0 g2 I1
      have hw3 := (unhide I2).size
      go_wp2
      refine wp_region_noPanic ?_
      have gd := grown_drew (World.grownBy.refl w2 none)
      have I3 := hide ((unhide I2).new gd)
      have hz3 := gd.size
      clear I2 gd
      refine wp_region_tailL 20 (fun W => In3 w W #[.int .i64 p, .int .i64 wd, .int .i64 ht, .int .i64 rs, .slice ao n cap] (.slice xo m xc) #[.int .i64 co, .int .i64 ro, .int .i64 cl]) [true, false, true, false, true, false, false, false] (by kernel_rfl) (fun _ _ _ _ _ h => h) rfl (by decide) (by kernel_rfl) (unhide I3) ?_
      generalize w2.drew = w3 at *
      refine heldF_take (v := ?_) (Or.inl ⟨by rfl, ?_⟩) ?_
      rotate_left 1
      · intro w' hSw
        try dsimp only at hSw
        have s1 := frameCells hSw.fb
        go_simp
        try with_reducible rfl
      simp only [Act.put, List.setIfInBounds_toArray, List.set_cons_zero, List.set_cons_succ]
      refine heldF_skip ?_
      refine heldF_take (v := ?_) (Or.inl ⟨by rfl, ?_⟩) ?_
      rotate_left 1
      · intro w' hSw
        try dsimp only at hSw
        have s1 := hSw.cell
        go_simp
        try with_reducible rfl
      simp only [Act.put, List.setIfInBounds_toArray, List.set_cons_zero, List.set_cons_succ]
      refine heldF_skip ?_
      refine heldF_take (v := ?_) (Or.inl ⟨by rfl, ?_⟩) ?_
      rotate_left 1
      · intro w' hSw
        try dsimp only at hSw
        have s1 := hSw.place
        go_simp
        try with_reducible rfl
      simp only [Act.put, List.setIfInBounds_toArray, List.set_cons_zero, List.set_cons_succ]
      refine heldF_skip ?_
      refine heldF_skip ?_
      refine heldF_skip ?_
      refine heldF_nil ?_
      refine tailL_skip ?_
      refine tailL_step (fun K hK => ?_)
      go_simp
      refine (toFrame p wd ht rs ao n cap C w3 ((unhide HR).grown (unhide I3).grown) hn).mono ?_
      rintro e w4 ⟨q4, rfl, o4, g4⟩
      have RF_0 := hide (own_rdC o4)
      clear o4
      have I4 := hide ((unhide I3).new g4)
      have hz4 := g4.size
      clear I3 g4
      go_simp
      refine hK.out _ _ (.inr (unhide I4)) ?_
      clear hK K
      refine tailL_skip ?_
      refine tailL_step (fun K hK => ?_)
      go_simp
      refine (toCoefsC w4 _ X ((unhide HX).st (unhide I4).grown).rd hs).mono ?_
      rintro e w5 ⟨u5, F5, rfl, o5, n5, l5, g5⟩
      obtain ⟨so5, sc5, rfl⟩ := Bc.form o5
      rw [unhide HM] at o5 ⊢
      have RX_0 : Hid (Rd3 w5 (.slice so5 m sc5) X) := by obtain ⟨v', e', r'⟩ := o5.rd; obtain rfl : Value.slice so5 m sc5 = v' := (by simpa using e'); exact r'
      clear o5 n5 l5
      have I5 := hide ((unhide I4).new g5)
      have hz5 := g5.size
      have RF_5 := hide ((unhide RF_0).grown g5)
      clear I4 g5 RF_0
      go_simp
      refine hK.out _ _ (.inr (unhide I5)) ?_
      clear hK K
      refine tailL_skip ?_
      refine tailL_step (fun K hK => ?_)
      go_simp
      refine (toPlace co ro cl w5).mono ?_
      rintro e w6 ⟨rfl, g6⟩
      have I6 := hide ((unhide I5).new g6)
      have hz6 := g6.size
      have RF_6 := hide ((unhide RF_5).grown g6)
      have RX_6 := hide (st3 _ _ _ _ (unhide RX_0) g6)
      clear I5 g6 RF_5 RX_0
      go_simp
      refine hK.out _ _ (.inr (unhide I6)) ?_
      clear hK K
      refine tailL_step (fun K hK => ?_)
      go_simp
      refine (specBlockAt p wd ht rs _ n n C _ X co ro cl w6 (unhide RF_6) (unhide RX_6) hs fb HFB L HL).mono ?_
      rintro e w7 ⟨so7, sc7, rfl, o7, g7⟩
      have LOW : Hid (∀ g ∈ blk (.slice so7 L.length sc7), w6.heap.size ≤ g ∧ g < w7.heap.size) := fun g e => o7.lt g (mem_blk.1 e)
      have W_0 := hide (OwI.of o7)
      clear o7
      clear RF_6
      clear RX_6
      have I7 := hide ((unhide I6).new g7)
      have hz7 := g7.size
      clear I6 g7
      go_simp
      refine hK.out _ _ (.inr (unhide I7)) ?_
      clear hK K
      refine tailL_step (fun K hK => ?_)
      go_simp
      refine hK.out _ _ (.inl rfl) ?_
      clear hK K
      refine tailL_nil (NoPanic.normal ?_)
      have ca := frameCells (unhide I7).fb
      go_wp2_with fail
      refine (toFrame p wd ht rs ao n cap C w7 ((unhide HR).grown (unhide I7).grown) hn).mono ?_
      rintro e w8 ⟨q8, rfl, o8, g8⟩
      have hq : w7.heap.size ≤ q8 ∧ q8 < w8.heap.size := o8.lt q8 rfl
      have g9 := grown_alloc g8 (.cells #[.int .i64 p, .int .i64 wd, .int .i64 ht, .int .i64 rs, .slice (some ⟨q8, 0, none⟩) n n] 26)
      have hy9 : w8.heap.size < (w8.alloc (.cells #[.int .i64 p, .int .i64 wd, .int .i64 ht, .int .i64 rs, .slice (some ⟨q8, 0, none⟩) n n] 26)).heap.size := by simp
      have X0_0 := hide (Bf.new o8 p wd ht rs)
      clear ca g8 o8
      have I9 := hide ((unhide I7).new g9)
      have hz9 := g9.size
      have W_9 := hide (ok1.keep (unhide W_0) g9)
      clear I7 g9 W_0
      have c0 := (unhide I9).cell
      go_wp2_with fail
      generalize (w8.alloc (.cells #[.int .i64 p, .int .i64 wd, .int .i64 ht, .int .i64 rs, .slice (some ⟨q8, 0, none⟩) n n] 26)) = w9 at *
      refine (toCoefsC w9 _ X ((unhide HX).st (unhide I9).grown).rd hs).mono ?_
      rintro e w10 ⟨u10, F10, rfl, o10, n10, l10, g10⟩
      obtain ⟨so10, sc10, rfl⟩ := Bc.form o10
      rw [unhide HM] at o10 ⊢
      have LOX1 : Hid (∀ g ∈ F10, w9.heap.size ≤ g ∧ g < w10.heap.size) := fun g e => ⟨l10 g e, o10.lt g e⟩
      have NDX1 := hide n10
      have g11 := grown_alloc g10 (.cells #[.slice so10 m sc10] 29)
      have hy11 : w10.heap.size < (w10.alloc (.cells #[.slice so10 m sc10] 29)).heap.size := by simp
      have X1_0 := hide (Bc.new o10)
      have hv10 := g10.size
      clear c0 g10 o10 n10 l10
      have I11 := hide ((unhide I9).new g11)
      have hz11 := g11.size
      have W_11 := hide (ok1.keep (unhide W_9) g11)
      have X0_11 := hide ((unhide X0_0).keep g11)
      clear I9 g11 W_9 X0_0
      go_wp2
      generalize (w10.alloc (.cells #[.slice so10 m sc10] 29)) = w11 at *
      go_wp2
      refine wp_region_noPanic ?_
      have gd := grown_drew (World.grownBy.refl w11 none)
      have I12 := hide ((unhide I11).new gd)
      have hz12 := gd.size
      have W_12 := hide (ok1.keep (unhide W_11) gd)
      have X0_12 := hide ((unhide X0_11).keep gd)
      have X1_12 := hide ((unhide X1_0).keep gd)
      clear I11 gd W_11 X0_11 X1_0
      refine wp_region_tailL 20 (fun W => In3 w W #[.int .i64 p, .int .i64 wd, .int .i64 ht, .int .i64 rs, .slice ao n cap] (.slice xo m xc) #[.int .i64 co, .int .i64 ro, .int .i64 cl] ∧ Bf W w8.heap.size p wd ht rs q8 n _ C ∧ W.cell? ⟨w10.heap.size, 0, none⟩ = some (.slice so10 m sc10)) [true, true, true, false, false, false] (by kernel_rfl) (fun _ _ _ _ _ h => h) rfl (by decide) (by kernel_rfl) ⟨(unhide I12), (unhide X0_12), (unhide X1_12).cell⟩ ?_
      generalize w11.drew = w12 at *
      refine heldF_take (v := ?_) (Or.inl ⟨by rfl, ?_⟩) ?_
      rotate_left 1
      · intro w' hSw
        try dsimp only at hSw
        have s1 := frameCells hSw.2.1.box
        go_simp
        try with_reducible rfl
      simp only [Act.put, List.setIfInBounds_toArray, List.set_cons_zero, List.set_cons_succ]
      refine heldF_take (v := ?_) (Or.inl ⟨by rfl, ?_⟩) ?_
      rotate_left 1
      · intro w' hSw
        try dsimp only at hSw
        have s1 := hSw.2.2
        go_simp
        try with_reducible rfl
      simp only [Act.put, List.setIfInBounds_toArray, List.set_cons_zero, List.set_cons_succ]
      refine heldF_take (v := ?_) (Or.inl ⟨by rfl, ?_⟩) ?_
      rotate_left 1
      · intro w' hSw
        try dsimp only at hSw
        have s1 := hSw.1.place
        go_simp
        try with_reducible rfl
      simp only [Act.put, List.setIfInBounds_toArray, List.set_cons_zero, List.set_cons_succ]
      refine heldF_skip ?_
      refine heldF_skip ?_
      refine heldF_skip ?_
      refine heldF_nil ?_
      refine tailL_skip ?_
      refine tailL_skip ?_
      refine tailL_skip ?_
      refine tailL_step (fun K hK => ?_)
      go_simp
      refine (toPlace co ro cl w12).mono ?_
      rintro e w13 ⟨rfl, g13⟩
      have I13 := hide ((unhide I12).new g13)
      have hz13 := g13.size
      have W_13 := hide (ok1.keep (unhide W_12) g13)
      have X0_13 := hide ((unhide X0_12).keep g13)
      have X1_13 := hide ((unhide X1_12).keep g13)
      clear I12 g13 W_12 X0_12 X1_12
      go_simp
      refine hK.out _ _ (.inr ⟨(unhide I13), (unhide X0_13), (unhide X1_13).cell⟩) ?_
      clear hK K
      refine tailL_step (fun K hK => ?_)
      go_simp
      refine (unhide HI p wd ht rs _ n n C _ X co ro cl w13 (unhide X0_13).rd hn (by obtain ⟨v', e', r'⟩ := (unhide X1_13).own.rd; obtain rfl : Value.slice so10 m sc10 = v' := (by simpa using e'); exact r') hs fb HFB L HL).mono ?_
      rintro e w14 ⟨so14, sc14, rfl, o14, g14⟩
      have LOY : Hid (∀ g ∈ blk (.slice so14 L.length sc14), w13.heap.size ≤ g ∧ g < w14.heap.size) := fun g e => o14.lt g (mem_blk.1 e)
      have Y_0 := hide (OwI.of o14)
      clear o14
      have I14 := hide ((unhide I13).new g14)
      have hz14 := g14.size
      have W_14 := hide (ok1.keep (unhide W_13) g14)
      have X0_14 := hide ((unhide X0_13).keep g14)
      have X1_14 := hide ((unhide X1_13).keep g14)
      clear I13 g14 W_13 X0_13 X1_13
      go_simp
      refine hK.out _ _ (.inr ⟨(unhide I14), (unhide X0_14), (unhide X1_14).cell⟩) ?_
      clear hK K
      refine tailL_step (fun K hK => ?_)
      go_simp
      refine hK.out _ _ (.inl rfl) ?_
      clear hK K
      refine tailL_nil (NoPanic.normal ?_)
      go_wp2_with fail
      refine (eqIntSC w14 _ _ L (OwI.rd (unhide Y_0)) (OwI.rd (unhide W_14)) hL).mono ?_
      rintro e w15 ⟨rfl, g15⟩
      have I15 := hide ((unhide I14).new g15)
      have hz15 := g15.size
      have W_15 := hide (ok1.keep (unhide W_14) g15)
      have X0_15 := hide ((unhide X0_14).keep g15)
      have X1_15 := hide ((unhide X1_14).keep g15)
      have Y_15 := hide (ok1.keep (unhide Y_0) g15)
      clear I14 g15 W_14 X0_14 X1_14 Y_0
      go_wp2
      refine wp_region_noPanic ?_
      have gd := grown_drew (World.grownBy.refl w15 none)
      have I16 := hide ((unhide I15).new gd)
      have hz16 := gd.size
      have W_16 := hide (ok1.keep (unhide W_15) gd)
      have X0_16 := hide ((unhide X0_15).keep gd)
      have X1_16 := hide ((unhide X1_15).keep gd)
      have Y_16 := hide (ok1.keep (unhide Y_15) gd)
      clear I15 gd W_15 X0_15 X1_15 Y_15
      refine wp_region_tailL 20 (fun W => In3 w W #[.int .i64 p, .int .i64 wd, .int .i64 ht, .int .i64 rs, .slice ao n cap] (.slice xo m xc) #[.int .i64 co, .int .i64 ro, .int .i64 cl] ∧ Bf W w8.heap.size p wd ht rs q8 n _ C) [true, true, false, false, false] (by kernel_rfl) (fun _ _ _ _ _ h => h) rfl (by decide) (by kernel_rfl) ⟨(unhide I16), (unhide X0_16)⟩ ?_
      generalize w15.drew = w16 at *
      refine heldF_take (v := ?_) (Or.inl ⟨by rfl, ?_⟩) ?_
      rotate_left 1
      · intro w' hSw
        try dsimp only at hSw
        have s1 := frameCells hSw.2.box
        go_simp
        try with_reducible rfl
      simp only [Act.put, List.setIfInBounds_toArray, List.set_cons_zero, List.set_cons_succ]
      refine heldF_take (v := ?_) (Or.inl ⟨by rfl, ?_⟩) ?_
      rotate_left 1
      · intro w' hSw
        try dsimp only at hSw
        have s1 := frameCells hSw.1.fb
        go_simp
        try with_reducible rfl
      simp only [Act.put, List.setIfInBounds_toArray, List.set_cons_zero, List.set_cons_succ]
      refine heldF_skip ?_
      refine heldF_skip ?_
      refine heldF_skip ?_
      refine heldF_nil ?_
      refine tailL_skip ?_
      refine tailL_skip ?_
      refine tailL_step (fun K hK => ?_)
      go_simp
      refine (toFrame p wd ht rs ao n cap C w16 ((unhide HR).grown (unhide I16).grown) hn).mono ?_
      rintro e w17 ⟨q17, rfl, o17, g17⟩
      have RF_0 := hide (own_rdC o17)
      clear o17
      have I17 := hide ((unhide I16).new g17)
      have hz17 := g17.size
      have W_17 := hide (ok1.keep (unhide W_16) g17)
      have X0_17 := hide ((unhide X0_16).keep g17)
      have X1_17 := hide ((unhide X1_16).keep g17)
      have Y_17 := hide (ok1.keep (unhide Y_16) g17)
      clear I16 g17 W_16 X0_16 X1_16 Y_16
      go_simp
      refine hK.out _ _ (.inr ⟨(unhide I17), (unhide X0_17)⟩) ?_
      clear hK K
      refine tailL_step (fun K hK => ?_)
      go_simp
      refine (eqFrame p wd ht rs _ _ n n n C w17 (unhide X0_17).rd (unhide RF_0) hn).mono ?_
      rintro e w18 ⟨rfl, g18⟩
      clear RF_0
      have I18 := hide ((unhide I17).new g18)
      have hz18 := g18.size
      have W_18 := hide (ok1.keep (unhide W_17) g18)
      have X0_18 := hide ((unhide X0_17).keep g18)
      have X1_18 := hide ((unhide X1_17).keep g18)
      have Y_18 := hide (ok1.keep (unhide Y_17) g18)
      clear I17 g18 W_17 X0_17 X1_17 Y_17
      go_simp
      refine hK.out _ _ (.inr ⟨(unhide I18), (unhide X0_18)⟩) ?_
      clear hK K
      refine tailL_step (fun K hK => ?_)
      go_simp
      refine hK.out _ _ (.inl rfl) ?_
      clear hK K
      refine tailL_nil (NoPanic.normal ?_)
      go_wp2
      refine wp_region_noPanic ?_
      have gd := grown_drew (World.grownBy.refl w18 none)
      have I19 := hide ((unhide I18).new gd)
      have hz19 := gd.size
      have W_19 := hide (ok1.keep (unhide W_18) gd)
      have X0_19 := hide ((unhide X0_18).keep gd)
      have X1_19 := hide ((unhide X1_18).keep gd)
      have Y_19 := hide (ok1.keep (unhide Y_18) gd)
      clear I18 gd W_18 X0_18 X1_18 Y_18
      refine wp_region_tailL 20 (fun W => In3 w W #[.int .i64 p, .int .i64 wd, .int .i64 ht, .int .i64 rs, .slice ao n cap] (.slice xo m xc) #[.int .i64 co, .int .i64 ro, .int .i64 cl] ∧ W.cell? ⟨w10.heap.size, 0, none⟩ = some (.slice so10 m sc10)) [true, true, false, false, false] (by kernel_rfl) (fun _ _ _ _ _ h => h) rfl (by decide) (by kernel_rfl) ⟨(unhide I19), (unhide X1_19).cell⟩ ?_
      generalize w18.drew = w19 at *
      refine heldF_take (v := ?_) (Or.inl ⟨by rfl, ?_⟩) ?_
      rotate_left 1
      · intro w' hSw
        try dsimp only at hSw
        have s1 := hSw.2
        go_simp
        try with_reducible rfl
      simp only [Act.put, List.setIfInBounds_toArray, List.set_cons_zero, List.set_cons_succ]
      refine heldF_take (v := ?_) (Or.inl ⟨by rfl, ?_⟩) ?_
      rotate_left 1
      · intro w' hSw
        try dsimp only at hSw
        have s1 := hSw.1.cell
        go_simp
        try with_reducible rfl
      simp only [Act.put, List.setIfInBounds_toArray, List.set_cons_zero, List.set_cons_succ]
      refine heldF_skip ?_
      refine heldF_skip ?_
      refine heldF_skip ?_
      refine heldF_nil ?_
      refine tailL_skip ?_
      refine tailL_skip ?_
      refine tailL_step (fun K hK => ?_)
      go_simp
      refine (toCoefsC w19 _ X ((unhide HX).st (unhide I19).grown).rd hs).mono ?_
      rintro e w20 ⟨u20, F20, rfl, o20, n20, l20, g20⟩
      obtain ⟨so20, sc20, rfl⟩ := Bc.form o20
      rw [unhide HM] at o20 ⊢
      have OG := hide o20.rd
      clear o20 n20 l20
      have I20 := hide ((unhide I19).new g20)
      have hz20 := g20.size
      have W_20 := hide (ok1.keep (unhide W_19) g20)
      have X0_20 := hide ((unhide X0_19).keep g20)
      have X1_20 := hide ((unhide X1_19).keep g20)
      have Y_20 := hide (ok1.keep (unhide Y_19) g20)
      clear I19 g20 W_19 X0_19 X1_19 Y_19
      go_simp
      refine hK.out _ _ (.inr ⟨(unhide I20), (unhide X1_20).cell⟩) ?_
      clear hK K
      refine tailL_step (fun K hK => ?_)
      go_simp
      refine (eqCoefsC w20 _ _ X (unhide X1_20).own.rd (unhide OG) hs).mono ?_
      rintro e w21 ⟨rfl, g21⟩
      clear OG
      have I21 := hide ((unhide I20).new g21)
      have hz21 := g21.size
      have W_21 := hide (ok1.keep (unhide W_20) g21)
      have X0_21 := hide ((unhide X0_20).keep g21)
      have X1_21 := hide ((unhide X1_20).keep g21)
      have Y_21 := hide (ok1.keep (unhide Y_20) g21)
      clear I20 g21 W_20 X0_20 X1_20 Y_20
      go_simp
      refine hK.out _ _ (.inr ⟨(unhide I21), (unhide X1_21).cell⟩) ?_
      clear hK K
      refine tailL_step (fun K hK => ?_)
      go_simp
      refine hK.out _ _ (.inl rfl) ?_
      clear hK K
      refine tailL_nil (NoPanic.normal ?_)
      have cx := frameCells (unhide X0_21).box
      go_wp2_with fail
      refine (markFrame p wd ht rs _ n _ _ C 1 w21 (unhide X0_21).own hn (by omega) (by omega)).mono ?_
      rintro e w22 ⟨rfl, _, gb22⟩
      have g22 : Wr [q8] w21 w22 := Wr.ofRow gb22 (fun g e => by have e9 : q8 = g := Option.some.inj e; simp [e9])
      clear cx gb22
      have LOQ : Hid (∀ g ∈ [q8], w.heap.size + 3 ≤ g ∧ g = q8) := fun g e => by simp at e; omega
      have I22 := hide ((unhide I21).wr g22 (fun x hx => by have := unhide LOQ x hx; omega))
      have hz22 := g22.size
      have W_22 := hide (ok1.wr (unhide W_21) g22 (fun x hx e => by have := unhide LOQ x e; have := unhide LOW x hx; omega))
      have X1_22 := hide ((unhide X1_21).wr g22 (fun e => by have := unhide LOQ _ e; omega) (fun x hx e => by have := unhide LOQ x e; have := unhide LOX1 x hx; omega))
      have Y_22 := hide (ok1.wr (unhide Y_21) g22 (fun x hx e => by have := unhide LOQ x e; have := unhide LOY x hx; omega))
      clear I21 g22 W_21 X0_21 X1_21 Y_21
      generalize (1 : Int) + 4 * (n : Int) = pk at *
      have c1 := (unhide X1_22).cell
      go_wp2_with fail
      refine (markCoefsC w22 _ X F10 pk (unhide X1_22).own (unhide NDX1) hs (by omega) (by omega)).mono ?_
      rintro e w23 ⟨rfl, _, g23⟩
      clear c1
      have I23 := hide ((unhide I22).wr g23 (fun x hx => by have := unhide LOX1 x hx; omega))
      have hz23 := g23.size
      have W_23 := hide (ok1.wr (unhide W_22) g23 (fun x hx e => by have := unhide LOX1 x e; have := unhide LOW x hx; omega))
      have Y_23 := hide (ok1.wr (unhide Y_22) g23 (fun x hx e => by have := unhide LOX1 x e; have := unhide LOY x hx; omega))
      clear I22 g23 W_22 X1_22 Y_22
      go_wp2_with fail
      refine (eqIntSC w23 _ _ L (OwI.rd (unhide Y_23)) (OwI.rd (unhide W_23)) hL).mono ?_
      rintro e w24 ⟨rfl, g24⟩
      have I24 := hide ((unhide I23).new g24)
      have hz24 := g24.size
      have W_24 := hide (ok1.keep (unhide W_23) g24)
      have Y_24 := hide (ok1.keep (unhide Y_23) g24)
      clear I23 g24 W_23 Y_23
      go_wp2_with fail
      refine (markIntSC w24 _ L _ 1 (unhide Y_24) (blk_nodup _) hL (by omega) (by omega)).mono ?_
      rintro e w25 ⟨rfl, oy, g25⟩
      have Y_m := hide oy
      clear oy
      have I25 := hide ((unhide I24).wr g25 (fun x hx => by have := unhide LOY x hx; omega))
      have hz25 := g25.size
      have W_25 := hide (ok1.wr (unhide W_24) g25 (fun x hx e => by have := unhide LOY x e; have := unhide LOW x hx; omega))
      clear I24 g25 W_24 Y_24
      go_wp2_with fail
      refine (heldIntSC w25 _ L 1 (OwI.rd (unhide Y_m)) hL (by omega) (by omega)).mono ?_
      rintro e w26 ⟨rfl, g26⟩
      have I26 := hide ((unhide I25).new g26)
      have hz26 := g26.size
      have W_26 := hide (ok1.keep (unhide W_25) g26)
      have Y_26 := hide (ok1.keep (unhide Y_m) g26)
      clear I25 g26 W_25 Y_m
      go_wp2
      refine wp_region_noPanic ?_
      have gd := grown_drew (World.grownBy.refl w26 none)
      have I27 := hide ((unhide I26).new gd)
      have hz27 := gd.size
      have W_27 := hide (ok1.keep (unhide W_26) gd)
      have Y_27 := hide (ok1.keep (unhide Y_26) gd)
      clear I26 gd W_26 Y_26
      refine wp_region_tailL 20 (fun W => In3 w W #[.int .i64 p, .int .i64 wd, .int .i64 ht, .int .i64 rs, .slice ao n cap] (.slice xo m xc) #[.int .i64 co, .int .i64 ro, .int .i64 cl]) [true, false, true, false, true, false, false, false] (by kernel_rfl) (fun _ _ _ _ _ h => h) rfl (by decide) (by kernel_rfl) (unhide I27) ?_
      generalize w26.drew = w27 at *
      refine heldF_take (v := ?_) (Or.inl ⟨by rfl, ?_⟩) ?_
      rotate_left 1
      · intro w' hSw
        try dsimp only at hSw
        have s1 := frameCells hSw.fb
        go_simp
        try with_reducible rfl
      simp only [Act.put, List.setIfInBounds_toArray, List.set_cons_zero, List.set_cons_succ]
      refine heldF_skip ?_
      refine heldF_take (v := ?_) (Or.inl ⟨by rfl, ?_⟩) ?_
      rotate_left 1
      · intro w' hSw
        try dsimp only at hSw
        have s1 := hSw.cell
        go_simp
        try with_reducible rfl
      simp only [Act.put, List.setIfInBounds_toArray, List.set_cons_zero, List.set_cons_succ]
      refine heldF_skip ?_
      refine heldF_take (v := ?_) (Or.inl ⟨by rfl, ?_⟩) ?_
      rotate_left 1
      · intro w' hSw
        try dsimp only at hSw
        have s1 := hSw.place
        go_simp
        try with_reducible rfl
      simp only [Act.put, List.setIfInBounds_toArray, List.set_cons_zero, List.set_cons_succ]
      refine heldF_skip ?_
      refine heldF_skip ?_
      refine heldF_skip ?_
      refine heldF_nil ?_
      refine tailL_skip ?_
      refine tailL_step (fun K hK => ?_)
      go_simp
      refine (toFrame p wd ht rs ao n cap C w27 ((unhide HR).grown (unhide I27).grown) hn).mono ?_
      rintro e w28 ⟨q28, rfl, o28, g28⟩
      have RF_0 := hide (own_rdC o28)
      clear o28
      have I28 := hide ((unhide I27).new g28)
      have hz28 := g28.size
      have W_28 := hide (ok1.keep (unhide W_27) g28)
      have Y_28 := hide (ok1.keep (unhide Y_27) g28)
      clear I27 g28 W_27 Y_27
      go_simp
      refine hK.out _ _ (.inr (unhide I28)) ?_
      clear hK K
      refine tailL_skip ?_
      refine tailL_step (fun K hK => ?_)
      go_simp
      refine (toCoefsC w28 _ X ((unhide HX).st (unhide I28).grown).rd hs).mono ?_
      rintro e w29 ⟨u29, F29, rfl, o29, n29, l29, g29⟩
      obtain ⟨so29, sc29, rfl⟩ := Bc.form o29
      rw [unhide HM] at o29 ⊢
      have RX_0 : Hid (Rd3 w29 (.slice so29 m sc29) X) := by obtain ⟨v', e', r'⟩ := o29.rd; obtain rfl : Value.slice so29 m sc29 = v' := (by simpa using e'); exact r'
      clear o29 n29 l29
      have I29 := hide ((unhide I28).new g29)
      have hz29 := g29.size
      have W_29 := hide (ok1.keep (unhide W_28) g29)
      have Y_29 := hide (ok1.keep (unhide Y_28) g29)
      have RF_29 := hide ((unhide RF_0).grown g29)
      clear I28 g29 W_28 Y_28 RF_0
      go_simp
      refine hK.out _ _ (.inr (unhide I29)) ?_
      clear hK K
      refine tailL_skip ?_
      refine tailL_step (fun K hK => ?_)
      go_simp
      refine (toPlace co ro cl w29).mono ?_
      rintro e w30 ⟨rfl, g30⟩
      have I30 := hide ((unhide I29).new g30)
      have hz30 := g30.size
      have W_30 := hide (ok1.keep (unhide W_29) g30)
      have Y_30 := hide (ok1.keep (unhide Y_29) g30)
      have RF_30 := hide ((unhide RF_29).grown g30)
      have RX_30 := hide (st3 _ _ _ _ (unhide RX_0) g30)
      clear I29 g30 W_29 Y_29 RF_29 RX_0
      go_simp
      refine hK.out _ _ (.inr (unhide I30)) ?_
      clear hK K
      refine tailL_step (fun K hK => ?_)
      go_simp
      refine (unhide HI p wd ht rs _ n n C _ X co ro cl w30 (unhide RF_30) hn (unhide RX_30) hs fb HFB L HL).mono ?_
      rintro e w31 ⟨so31, sc31, rfl, o31, g31⟩
      have LOH : Hid (∀ g ∈ blk (.slice so31 L.length sc31), w30.heap.size ≤ g ∧ g < w31.heap.size) := fun g e => o31.lt g (mem_blk.1 e)
      have H_0 := hide (OwI.of o31)
      clear o31
      clear RF_30
      clear RX_30
      have I31 := hide ((unhide I30).new g31)
      have hz31 := g31.size
      have W_31 := hide (ok1.keep (unhide W_30) g31)
      have Y_31 := hide (ok1.keep (unhide Y_30) g31)
      clear I30 g31 W_30 Y_30
      go_simp
      refine hK.out _ _ (.inr (unhide I31)) ?_
      clear hK K
      refine tailL_step (fun K hK => ?_)
      go_simp
      refine hK.out _ _ (.inl rfl) ?_
      clear hK K
      refine tailL_nil (NoPanic.normal ?_)
      go_wp2_with fail
      refine (eqIntSC w31 _ _ L (OwI.rd (unhide H_0)) (OwI.rd (unhide W_31)) hL).mono ?_
      rintro e w32 ⟨rfl, g32⟩
      have I32 := hide ((unhide I31).new g32)
      have hz32 := g32.size
      have W_32 := hide (ok1.keep (unhide W_31) g32)
      have Y_32 := hide (ok1.keep (unhide Y_31) g32)
      have H_32 := hide (ok1.keep (unhide H_0) g32)
      clear I31 g32 W_31 Y_31 H_0
      go_wp2_with fail
      refine (heldIntSC w32 _ L 1 (OwI.rd (unhide Y_32)) hL (by omega) (by omega)).mono ?_
      rintro e w33 ⟨rfl, g33⟩
      have I33 := hide ((unhide I32).new g33)
      have hz33 := g33.size
      have W_33 := hide (ok1.keep (unhide W_32) g33)
      have Y_33 := hide (ok1.keep (unhide Y_32) g33)
      have H_33 := hide (ok1.keep (unhide H_32) g33)
      clear I32 g33 W_32 Y_32 H_32
      go_wp2
      go_ret
      exact ⟨rfl, grown_below (unhide I33).grown⟩
    · have hr2 : decide (r < 0) = true := decide_eq_true (by have := unhide HR2; rw [if_neg hsz] at this; omega)
      go_enter Try.func6, Try.ntmps6
      go_wp2_with fail
      generalize (((w.alloc (.cells #[.int .i64 p, .int .i64 wd, .int .i64 ht, .int .i64 rs, .slice ao n cap] 46)).alloc (.cells #[.slice xo m xc] 53)).alloc (.cells #[.int .i64 co, .int .i64 ro, .int .i64 cl] 57)) = wx at *
      refine (szFrame p wd ht rs ao n cap 1048576 _ wx (by omega) (by omega) (by omega) HSZ).mono ?_
      rintro e wy ⟨rfl, g1⟩
      have I1 := hide ((unhide I0).new g1)
      clear c0 ca g1 I0
      have c0 := (unhide I1).cell
      go_wp2_with fail
      refine (szCoefsC wy _ X lf ((unhide HX).st (unhide I1).grown) hl1 r HR2).mono ?_
      rintro e w2 ⟨rfl, g2⟩
      have I2 := hide ((unhide I1).new g2)
      clear c0 g2 I1
      go_wp2
      go_ret
      exact ⟨rfl, grown_below (unhide I2).grown⟩
  · have HSZ : Hid ((if (n : Int) ≤ 1048576 then 1048576 - (n : Int) else -1) = -1) := if_neg hbig
    go_enter Try.func6, Try.ntmps6
    go_wp2_with fail
    generalize (((w.alloc (.cells #[.int .i64 p, .int .i64 wd, .int .i64 ht, .int .i64 rs, .slice ao n cap] 46)).alloc (.cells #[.slice xo m xc] 53)).alloc (.cells #[.int .i64 co, .int .i64 ro, .int .i64 cl] 57)) = wx at *
    refine (szFrame p wd ht rs ao n cap 1048576 _ wx (by omega) (by omega) (by omega) HSZ).mono ?_
    rintro e w1 ⟨rfl, g1⟩
    have I1 := hide ((unhide I0).new g1)
    clear c0 ca g1 I0
    go_wp2
    go_ret
    exact ⟨rfl, grown_below (unhide I1).grown⟩

end Go.Proofs.Ytibgldanmhckiaa
