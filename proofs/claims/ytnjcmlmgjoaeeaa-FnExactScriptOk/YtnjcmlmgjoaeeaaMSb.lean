/-
  ScanRows, ScanTo, ScanHeld, ScanSz, FramePure, FrameImpl, FrameImpl2, FrameImpl3, FrameAid, TreeOpen0.
-/
import Derived.Deep.RegionHeld3
import Derived.Test.YtnjcmlmgjoaeeaaRows
import Derived.Deep.WholeRow
import Derived.Deep.MidRow
import Derived.Laws.CopyOwn
import Derived.Laws.ResultCell
import Derived.OpenShut
import Derived.Deep.SlicePairs
import Derived.Deep.Slices
import Derived.Test.YtnjcmlmgjoaeeaaMSa

namespace Go.Proofs.Ytnjcmlmgjoaeeaa
open Go.RowKit

structure Scn where
  cs : List Int
  fr : Int
  to : Int
  hi : Int
  lo : Int
def Scn.zero : Scn := ⟨[], 0, 0, 0, 0⟩
def scC (c : Nat → Value) (a : Scn) : Prop := c 1 = .int .i64 a.fr ∧ c 2 = .int .i64 a.to ∧ c 3 = .int .i64 a.hi ∧ c 4 = .int .i64 a.lo
def scV (v : Value) (a : Scn) : Value := .agg #[v, .int .i64 a.fr, .int .i64 a.to, .int .i64 a.hi, .int .i64 a.lo]
def szSc (a : Scn) : Nat := lenI a.cs
/-- A scan that is read, and one that is owned. -/
def RdSc (w : World) (u : Value) (a : Scn) : Prop := ∃ v, u = scV v a ∧ RdI .i64 w v a.cs
def OwSc (w : World) (u : Value) (a : Scn) (F : List Nat) : Prop := ∃ v, u = scV v a ∧ OwI .i64 3 w v a.cs F
theorem RdSc.st : StR RdSc := fun _ _ _ _ ⟨v, e, h⟩ g => ⟨v, e, RdI.st .i64 _ _ _ _ h g⟩
theorem OwSc.rd {w : World} {u : Value} {a : Scn} {F : List Nat} (h : OwSc w u a F) : RdSc w u a := by obtain ⟨v, e, h⟩ := h; exact ⟨v, e, h.rd⟩
/-- The same in a row. -/
def RdScE (w : World) (c : Nat → Value) (a : Scn) : Prop := scC c a ∧ RdI .i64 w (c 0) a.cs
def OwScE (w : World) (c : Nat → Value) (a : Scn) (F : List Nat) : Prop := scC c a ∧ OwI .i64 3 w (c 0) a.cs F
theorem RdScE.st : StG RdScE := fun _ _ _ _ ⟨e, h⟩ g => ⟨e, RdI.st .i64 _ _ _ _ h g⟩
theorem OwScE.ok : OkG OwScE := ⟨fun _ _ _ _ _ h hs => ⟨h.1, ok1.same _ _ _ _ _ h.2 hs⟩, fun _ _ _ _ h => ok1.lt _ _ _ _ h.2⟩
abbrev RdSs := RdG 5 RdScE
abbrev OwSs := OwG 38 5 OwScE
theorem RdSs.st : StR RdSs := RdG.st RdScE.st
theorem OwSs.ok : OwOk OwSs := OwG.ok OwScE.ok
theorem OwSs.rd {w : World} {v : Value} {L : List Scn} {F : List Nat} (h : OwSs w v L F) : RdSs w v L := OwG.rd (fun _ _ _ _ h => ⟨h.1, h.2.rd⟩) h

theorem scanCells {w : World} {g : Nat} {a b c d v : Value} {t : TypeId} (hb : w.heap[g]? = some (.cells #[v, a, b, c, d] t (0, 0))) :
    w.cell? ⟨g, 0, none⟩ = some v ∧ w.cell? ⟨g, 1, none⟩ = some a ∧ w.cell? ⟨g, 2, none⟩ = some b ∧ w.cell? ⟨g, 3, none⟩ = some c ∧ w.cell? ⟨g, 4, none⟩ = some d :=
  ⟨by rw [cell_of_row w g 0 _ _ (0, 0) hb]; rfl, by rw [cell_of_row w g 1 _ _ (0, 0) hb]; rfl, by rw [cell_of_row w g 2 _ _ (0, 0) hb]; rfl, by rw [cell_of_row w g 3 _ _ (0, 0) hb]; rfl, by rw [cell_of_row w g 4 _ _ (0, 0) hb]; rfl⟩

theorem at_rowS {a b : World} {row : Option Nat} {k : Nat} {o : Obj} (g : a.grownBy b row) (h : a.heap[k]? = some o) (hne : row ≠ some k) : b.heap[k]? = some o :=
  (g.block k (Array.getElem?_eq_some_iff.1 h).1 (fun e => hne e.symm)).trans h

set_option maxHeartbeats 1600000 in
theorem eqScanC : EqC 25 RdSc szSc := by
  intro w u u' a hq hq' hs
  obtain ⟨v, rfl, hv⟩ := hq
  obtain ⟨v', rfl, hv'⟩ := hq'
  obtain ⟨cs, fr, to, hi, lo⟩ := a
  obtain ⟨vo, vc, rfl, hr⟩ := id hv
  obtain ⟨vo', vc', rfl, hr'⟩ := id hv'
  clear hr hr'
  dsimp only at hv hv' ⊢
  obtain ⟨vn, HVN⟩ : ∃ vn, Hid (cs.length = vn) := ⟨_, rfl⟩
  rw [unhide HVN] at hv hv' ⊢
  obtain ⟨W2, HW2⟩ : ∃ W2, Hid ((w.alloc (.cells #[.slice vo vn vc, .int .i64 fr, .int .i64 to, .int .i64 hi, .int .i64 lo] 38)).alloc (.cells #[.slice vo' vn vc', .int .i64 fr, .int .i64 to, .int .i64 hi, .int .i64 lo] 38) = W2) := ⟨_, rfl⟩
  have G0 : w.grownBy W2 none := by rw [← unhide HW2]; exact grown_alloc (grown_alloc (World.grownBy.refl _ _) _) _
  have B0 : W2.heap[w.heap.size]? = some (.cells #[.slice vo vn vc, .int .i64 fr, .int .i64 to, .int .i64 hi, .int .i64 lo] 38 (0, 0)) := by
    rw [← unhide HW2]
    exact at_rowS (World.grownBy_alloc _ _ none) (heap_alloc_new w _) (by simp)
  have B1 : W2.heap[w.heap.size + 1]? = some (.cells #[.slice vo' vn vc', .int .i64 fr, .int .i64 to, .int .i64 hi, .int .i64 lo] 38 (0, 0)) := by
    rw [← unhide HW2]
    have := heap_alloc_new (w.alloc (.cells #[.slice vo vn vc, .int .i64 fr, .int .i64 to, .int .i64 hi, .int .i64 lo] 38)) (.cells #[.slice vo' vn vc', .int .i64 fr, .int .i64 to, .int .i64 hi, .int .i64 lo] 38)
    simpa using this
  have HEQ := hide (eqIntSC W2 (.slice vo vn vc) (.slice vo' vn vc') cs (RdI.st .i64 _ _ _ _ hv G0) (RdI.st .i64 _ _ _ _ hv' G0) hs)
  have HB0 := hide B0
  have HB1 := hide B1
  have HG0 := hide G0
  have n1 : (fr != fr) = false := by simp
  have n2 : (to != to) = false := by simp
  have n3 : (hi != hi) = false := by simp
  have n4 : (lo != lo) = false := by simp
  have a0 := unhide HB0
  rw [← unhide HW2] at a0 B1
  obtain ⟨c0, c1, c2, c3, c4⟩ := scanCells a0
  obtain ⟨d0, d1, d2, d3, d4⟩ := scanCells B1
  clear hv hv' hs G0 B0 B1 a0
  unfold scV
  dsimp only
  go_enter Try.func25, Try.ntmps25
  go_wp2_with fail
  rw [unhide HW2]
  clear HW2 c0 c1 c2 c3 c4 d0 d1 d2 d3 d4
  refine (unhide HEQ).mono ?_
  rintro e w3 ⟨rfl, g3⟩
  obtain ⟨c0, c1, c2, c3, c4⟩ := scanCells (at_rowS g3 (unhide HB0) (by simp))
  obtain ⟨d0, d1, d2, d3, d4⟩ := scanCells (at_rowS g3 (unhide HB1) (by simp))
  have HG3 := hide (grown_trans (unhide HG0) g3)
  clear g3 HEQ HB0 HB1 HG0
  go_wp2
  go_ret
  exact ⟨rfl, unhide HG3⟩

theorem rowScan {w : World} {b off i : Nat} {c : Nat → Value} {a : Scn} (h : ∀ j, j < 5 → w.cell? ⟨b, off + i * 5 + j, none⟩ = some (c j)) (hc : scC c a) :
    w.cell? ⟨b, off + i * 5, none⟩ = some (c 0) ∧ w.cell? ⟨b, off + i * 5 + 1, none⟩ = some (.int .i64 a.fr) ∧ w.cell? ⟨b, off + i * 5 + 2, none⟩ = some (.int .i64 a.to) ∧ w.cell? ⟨b, off + i * 5 + 3, none⟩ = some (.int .i64 a.hi) ∧ w.cell? ⟨b, off + i * 5 + 4, none⟩ = some (.int .i64 a.lo) := by
  obtain ⟨e1, e2, e3, e4⟩ := hc
  exact ⟨h 0 (by omega), by rw [h 1 (by omega), e1], by rw [h 2 (by omega), e2], by rw [h 3 (by omega), e3], by rw [h 4 (by omega), e4]⟩

set_option maxRecDepth 20000 in
set_option maxHeartbeats 1600000 in
theorem eqScanSC : EqC 29 RdSs (szR szSc) := by
  intro w u u' a hq hq' hs
  obtain ⟨ao, cap, rfl, hel⟩ := hq
  obtain ⟨bo, cap', rfl, hel'⟩ := hq'
  have HEL := hide hel
  have HEM := hide hel'
  have hlen := szR_len szSc a
  have HSE := hide (fun i h => (szR_el szSc a i h).2)
  obtain ⟨n, HN⟩ : ∃ n, Hid (a.length = n) := ⟨_, rfl⟩
  have hn : n ≤ 1048576 := by have := unhide HN; omega
  have HS := hide hs
  rw [unhide HN]
  have hne : ((n : Int) != n) = false := by simp
  clear hel hel' hs hlen
  go_enter Try.func29, Try.ntmps29
  go_wp2
  go_loopw [5] (fun iv wr => ∃ i : Nat, i ≤ n ∧ iv = .int .i64 i ∧ Hid (w.grownBy wr none)) (fun iv _ => n - (intOf iv).toNat)
  case atStart => exact ⟨0, Nat.zero_le _, rfl, World.grownBy.refl _ _⟩
  case round =>
    obtain ⟨i, hin, rfl, hg⟩ := hrel
    by_cases hlt : i < n
    · have hia : i < a.length := by rw [unhide HN]; exact hlt
      obtain ⟨b, off, c, rfl, k0, k1, q0⟩ := unhide HEL i hia
      obtain ⟨b', off', c', rfl, k0', k1', q0'⟩ := unhide HEM i hia
      have d0 := rowScan (fun j hj => (unhide hg).cell (k0 j hj) (by simp)) k1
      have d1 := rowScan (fun j hj => (unhide hg).cell (k0' j hj) (by simp)) k1'
      have HD := hide (And.intro d0 d1)
      have HT : Hid (∀ W, wr.grownBy W none → Calls Try.prog 25 #[scV (c 0) a[i], scV (c' 0) a[i]] W fun e w' => e = .returned (.bool true) ∧ W.grownBy w' none) := fun W gW => eqScanC W _ _ a[i] ⟨_, rfl, RdI.st .i64 _ _ _ _ q0 (grown_trans (unhide hg) gW)⟩ ⟨_, rfl, RdI.st .i64 _ _ _ _ q0' (grown_trans (unhide hg) gW)⟩ (Nat.le_trans (unhide HSE i hia) (unhide HS))
      have hiI : (i : Int) < (n : Int) := by omega
      unfold scV at HT
      obtain ⟨vo, vc, ev, -⟩ := q0
      obtain ⟨vo', vc', ev', -⟩ := q0'
      rw [ev, ev'] at HT
      rw [ev, ev'] at HD
      generalize a[i].cs.length = vn at *
      generalize a[i].fr = fr at *
      generalize a[i].to = to at *
      generalize a[i].hi = hi at *
      generalize a[i].lo = lo at *
      clear k0 k1 k0' k1' d0 d1 ev ev'
      go_wp2
      refine wp_region_noPanic ?_
      refine wp_region_tailL 20 (fun w' => (w'.cell? ⟨b, off + i * 5, none⟩ = some (.slice vo vn vc) ∧ w'.cell? ⟨b, off + i * 5 + 1, none⟩ = some (.int .i64 fr) ∧ w'.cell? ⟨b, off + i * 5 + 2, none⟩ = some (.int .i64 to) ∧ w'.cell? ⟨b, off + i * 5 + 3, none⟩ = some (.int .i64 hi) ∧ w'.cell? ⟨b, off + i * 5 + 4, none⟩ = some (.int .i64 lo)) ∧ (w'.cell? ⟨b', off' + i * 5, none⟩ = some (.slice vo' vn vc') ∧ w'.cell? ⟨b', off' + i * 5 + 1, none⟩ = some (.int .i64 fr) ∧ w'.cell? ⟨b', off' + i * 5 + 2, none⟩ = some (.int .i64 to) ∧ w'.cell? ⟨b', off' + i * 5 + 3, none⟩ = some (.int .i64 hi) ∧ w'.cell? ⟨b', off' + i * 5 + 4, none⟩ = some (.int .i64 lo))) [true, true, true, true, true, true, true, true, false, false] (by kernel_rfl) (fun _ _ _ _ _ h => h) rfl (by decide) (by kernel_rfl) (unhide HD) ?_
      iterate 8
        refine heldF_take (v := ?_) (Or.inl ⟨by rfl, ?_⟩) ?_
        rotate_left 1
        · intro w' hSw
          try dsimp only at hSw
          obtain ⟨⟨z0, z1, z2, z3, z4⟩, y0, y1, y2, y3, y4⟩ := hSw
          go_simp
          try with_reducible rfl
        simp only [Act.put, List.setIfInBounds_toArray, List.set_cons_zero, List.set_cons_succ]
      iterate 2 refine heldF_skip ?_
      refine heldF_nil ?_
      iterate 8 refine tailL_skip ?_
      refine tailL_step (fun K hK => ?_)
      go_simp
      refine (unhide HT _ (grown_drew (World.grownBy.refl _ _))).mono ?_
      rintro e w2 ⟨rfl, g2⟩
      have g3 := grown_trans (grown_drew (World.grownBy.refl wr none)) g2
      obtain ⟨⟨z0, z1, z2, z3, z4⟩, y0, y1, y2, y3, y4⟩ := unhide HD
      have HD2 := hide (And.intro (And.intro (g3.cell z0 (by simp)) (And.intro (g3.cell z1 (by simp)) (And.intro (g3.cell z2 (by simp)) (And.intro (g3.cell z3 (by simp)) (g3.cell z4 (by simp)))))) (And.intro (g3.cell y0 (by simp)) (And.intro (g3.cell y1 (by simp)) (And.intro (g3.cell y2 (by simp)) (And.intro (g3.cell y3 (by simp)) (g3.cell y4 (by simp)))))))
      have HG3 := hide (grown_trans (unhide hg) g3)
      clear g2 g3 hg HT HD z0 z1 z2 z3 z4 y0 y1 y2 y3 y4
      go_simp
      refine hK.out _ _ (.inr (unhide HD2)) ?_
      clear hK K
      refine tailL_step (fun K hK => ?_)
      go_simp
      refine hK.out _ _ (.inl rfl) ?_
      clear hK K HD2
      refine tailL_nil (NoPanic.normal ?_)
      go_wp2
      go_roundw
      case rel => exact ⟨i + 1, by omega, by go_num, HG3⟩
      case measure => simp [intOf]; omega
    · obtain rfl : i = n := by omega
      go_wp2
      go_ret
      exact ⟨rfl, unhide hg⟩

end Go.Proofs.Ytnjcmlmgjoaeeaa

namespace Go.Proofs.Ytnjcmlmgjoaeeaa
open Go.RowKit

set_option maxRecDepth 20000 in
set_option maxHeartbeats 1600000 in
theorem toScanC : ToC 22 RdSc OwSc szSc := by
  intro w u a hq hs
  obtain ⟨v, rfl, hv⟩ := hq
  obtain ⟨cs, fr, to, hi, lo⟩ := a
  obtain ⟨vo, vc, rfl, hr⟩ := id hv
  clear hr
  dsimp only at hv ⊢
  obtain ⟨vn, HVN⟩ : ∃ vn, Hid (cs.length = vn) := ⟨_, rfl⟩
  rw [unhide HVN] at hv ⊢
  obtain ⟨W3, HW3⟩ : ∃ W3, Hid (((w.alloc (.cells #[.slice vo vn vc, .int .i64 fr, .int .i64 to, .int .i64 hi, .int .i64 lo] 43)).alloc (.cells #[.slice none 0 0, .int .i64 0, .int .i64 0, .int .i64 0, .int .i64 0] 38)).alloc (.cells #[.slice none 0 0, .int .i64 0, .int .i64 0, .int .i64 0, .int .i64 0] 38) = W3) := ⟨_, rfl⟩
  have G0 : w.grownBy W3 none := by rw [← unhide HW3]; exact grown_alloc (grown_alloc (grown_alloc (World.grownBy.refl _ _) _) _) _
  have B0 : W3.heap[w.heap.size]? = some (.cells #[.slice vo vn vc, .int .i64 fr, .int .i64 to, .int .i64 hi, .int .i64 lo] 43 (0, 0)) := by
    rw [← unhide HW3]
    exact at_rowS (World.grownBy_alloc _ _ none) (at_rowS (World.grownBy_alloc _ _ none) (heap_alloc_new w _) (by simp)) (by simp)
  have B1 : W3.heap[w.heap.size + 1]? = some (.cells #[.slice none 0 0, .int .i64 0, .int .i64 0, .int .i64 0, .int .i64 0] 38 (0, 0)) := by
    rw [← unhide HW3]
    refine at_rowS (World.grownBy_alloc _ _ none) ?_ (by simp)
    have := heap_alloc_new (w.alloc (.cells #[.slice vo vn vc, .int .i64 fr, .int .i64 to, .int .i64 hi, .int .i64 lo] 43)) (.cells #[.slice none 0 0, .int .i64 0, .int .i64 0, .int .i64 0, .int .i64 0] 38)
    simpa using this
  have B2 : W3.heap[w.heap.size + 1 + 1]? = some (.cells #[.slice none 0 0, .int .i64 0, .int .i64 0, .int .i64 0, .int .i64 0] 38 (0, 0)) := by
    rw [← unhide HW3]
    have := heap_alloc_new ((w.alloc (.cells #[.slice vo vn vc, .int .i64 fr, .int .i64 to, .int .i64 hi, .int .i64 lo] 43)).alloc (.cells #[.slice none 0 0, .int .i64 0, .int .i64 0, .int .i64 0, .int .i64 0] 38)) (.cells #[.slice none 0 0, .int .i64 0, .int .i64 0, .int .i64 0, .int .i64 0] 38)
    simpa using this
  have HTO := hide (toIntSC W3 (.slice vo vn vc) cs (RdI.st .i64 _ _ _ _ hv G0) hs)
  have HB0 := hide B0
  have HB1 := hide B1
  have HB2 := hide B2
  have HG0 := hide G0
  rw [← unhide HW3] at B0
  obtain ⟨c0, c1, c2, c3, c4⟩ := scanCells B0
  clear hv hs G0 B0 B1 B2
  unfold scV
  dsimp only
  go_enter Try.func22, Try.ntmps22
  go_wp2_with fail
  rw [unhide HW3]
  clear HW3 c0 c1 c2 c3 c4
  refine (unhide HTO).mono ?_
  rintro e w4 ⟨u4, F4, rfl, o4, n4, l4, g4⟩
  obtain ⟨o4', rfl⟩ := o4
  obtain ⟨uo, uc, rfl⟩ := own_form o4'
  rw [unhide HVN] at o4' l4 n4 ⊢
  have B0 := at_rowS g4 (unhide HB0) (by simp)
  have B1 := at_rowS g4 (unhide HB1) (by simp)
  have B2 := at_rowS g4 (unhide HB2) (by simp)
  have HS3 : Hid (w.heap.size + 3 ≤ W3.heap.size) := by have := (Array.getElem?_eq_some_iff.1 (unhide HB2)).1; unfold Hid; omega
  have HB1' := hide B1
  have HB2' := hide B2
  obtain ⟨c0, c1, c2, c3, c4⟩ := scanCells B0
  obtain ⟨d0, d1, d2, d3, d4⟩ := scanCells B1
  obtain ⟨e0, e1, e2, e3, e4⟩ := scanCells B2
  have fd : ∀ j, w4.frozen? ⟨w.heap.size + 1, j, none⟩ = false := fun j => frozen_of_row w4 _ j _ _ B1
  have fe : ∀ j, w4.frozen? ⟨w.heap.size + 1 + 1, j, none⟩ = false := fun j => frozen_of_row w4 _ j _ _ B2
  have q0 := fd 0
  have q1 := fd 1
  have q2 := fd 2
  have q3 := fd 3
  have q4 := fd 4
  have r0 := fe 0
  have r1 := fe 1
  have r2 := fe 2
  have r3 := fe 3
  have r4 := fe 4
  have HO4 := hide o4'
  have HL4 := hide l4
  have HN4 := hide n4
  have HG4 := hide (grown_trans (unhide HG0) g4)
  have HS4 := hide g4.size
  clear B0 B1 B2 o4' l4 n4 g4 fd fe HB0 HB1 HB2 HG0 HTO
  go_wp2
  have G5 := grown_trans (grown_trans (grown_trans (grown_trans (grown_set w4 (w.heap.size + 1 + 1) 0 (.slice uo vn uc)) (grown_set _ (w.heap.size + 1 + 1) 1 (.int .i64 fr))) (grown_set _ (w.heap.size + 1 + 1) 2 (.int .i64 to))) (grown_set _ (w.heap.size + 1 + 1) 3 (.int .i64 hi))) (grown_set _ (w.heap.size + 1 + 1) 4 (.int .i64 lo))
  obtain ⟨X5, hX5⟩ : ∃ X5, ((((w4.setCell ⟨w.heap.size + 1 + 1, 0, none⟩ (.slice uo vn uc)).setCell ⟨w.heap.size + 1 + 1, 1, none⟩ (.int .i64 fr)).setCell ⟨w.heap.size + 1 + 1, 2, none⟩ (.int .i64 to)).setCell ⟨w.heap.size + 1 + 1, 3, none⟩ (.int .i64 hi)).setCell ⟨w.heap.size + 1 + 1, 4, none⟩ (.int .i64 lo) = X5 := ⟨_, rfl⟩
  rw [hX5] at G5 ⊢
  have E1 := at_rowS G5 (unhide HB1') (by simp)
  have D0 := heap_setCell_same X5 (w.heap.size + 1) 0 _ _ (.slice uo vn uc) E1
  have D1 := heap_setCell_same _ (w.heap.size + 1) 1 _ _ (.int .i64 fr) D0
  have D2 := heap_setCell_same _ (w.heap.size + 1) 2 _ _ (.int .i64 to) D1
  have D3 := heap_setCell_same _ (w.heap.size + 1) 3 _ _ (.int .i64 hi) D2
  have D4 := heap_setCell_same _ (w.heap.size + 1) 4 _ _ (.int .i64 lo) D3
  simp only [List.setIfInBounds_toArray, List.set_cons_zero, List.set_cons_succ] at D4
  have G10 := grown_trans (grown_trans (grown_trans (grown_trans (grown_set X5 (w.heap.size + 1) 0 (.slice uo vn uc)) (grown_set _ (w.heap.size + 1) 1 (.int .i64 fr))) (grown_set _ (w.heap.size + 1) 2 (.int .i64 to))) (grown_set _ (w.heap.size + 1) 3 (.int .i64 hi))) (grown_set _ (w.heap.size + 1) 4 (.int .i64 lo))
  obtain ⟨X10, hX10⟩ : ∃ X10, ((((X5.setCell ⟨w.heap.size + 1, 0, none⟩ (.slice uo vn uc)).setCell ⟨w.heap.size + 1, 1, none⟩ (.int .i64 fr)).setCell ⟨w.heap.size + 1, 2, none⟩ (.int .i64 to)).setCell ⟨w.heap.size + 1, 3, none⟩ (.int .i64 hi)).setCell ⟨w.heap.size + 1, 4, none⟩ (.int .i64 lo) = X10 := ⟨_, rfl⟩
  rw [hX10] at D4 G10 ⊢
  obtain ⟨s0, s1, s2, s3, s4⟩ := scanCells D4
  clear hX5 hX10 D0 D1 D2 D3 E1
  have hb := fun g e => ((unhide HO4).lt g e).1
  have hbl : ∀ g, (Value.slice uo vn uc).ownBlock = some g → W3.heap.size ≤ g := fun g e => unhide HL4 g (mem_blk.2 e)
  have o5 := own_beneath (unhide HO4) G5 (fun a b h1 h2 => by have := hbl a h1; have := unhide HS3; simp at h2; omega)
  have o10 := own_beneath o5 G10 (fun a b h1 h2 => by have := hbl a h1; have := unhide HS3; simp at h2; omega)
  refine bodyPost_ret (v := .agg #[.slice uo vn uc, .int .i64 fr, .int .i64 to, .int .i64 hi, .int .i64 lo]) (by simp [results, Try.results22, go_sem, s0, s1, s2, s3, s4]) rfl ?_
  refine ⟨_, _, rfl, ⟨_, rfl, ?_, rfl⟩, blk_nodup _, fun g hg => ?_, grown_new (grown_new (unhide HG4) G5 (fun k e => by simp at e; omega)) G10 (fun k e => by simp at e; omega)⟩
  · rw [unhide HVN]; exact own_base o10 (Nat.zero_le _)
  · have := hbl g (mem_blk.1 hg); have := unhide HS3; omega

theorem info_scan : (Try.prog.info? 38).map (fun i => (i.zero, i.size, i.bytes)) = some (some (.agg #[.slice none 0 0, .int .i64 0, .int .i64 0, .int .i64 0, .int .i64 0]), 5, 56) := by kernel_rfl

def five (v a b c d : Value) (q : Nat) : Value := if q = 0 then v else if q = 1 then a else if q = 2 then b else if q = 3 then c else d
theorem own5 {w : World} {g cap n base : Nat} {e : TypeId} {U : Nat → Nat → Value} (h : w.ownsRow base e 5 (.slice (some ⟨g, 0, none⟩) n cap) n (rowsK n 5 U)) (i : Nat) (v a b c d : Value) :
    (((((w.setCell ⟨g, i * 5, none⟩ v).setCell ⟨g, i * 5 + 1, none⟩ a).setCell ⟨g, i * 5 + 2, none⟩ b).setCell ⟨g, i * 5 + 3, none⟩ c).setCell ⟨g, i * 5 + 4, none⟩ d).ownsRow base e 5 (.slice (some ⟨g, 0, none⟩) n cap) n (rowsK n 5 (fun p q => if p = i then five v a b c d q else U p q)) := by
  have s0 := (h.stored (i * 5 + 0) v).1
  rw [rowsK_set n 5 U i 0 v (by omega)] at s0
  have s1 := (s0.stored (i * 5 + 1) a).1
  rw [rowsK_set n 5 _ i 1 a (by omega)] at s1
  have s2 := (s1.stored (i * 5 + 2) b).1
  rw [rowsK_set n 5 _ i 2 b (by omega)] at s2
  have s3 := (s2.stored (i * 5 + 3) c).1
  rw [rowsK_set n 5 _ i 3 c (by omega)] at s3
  have s4 := (s3.stored (i * 5 + 4) d).1
  rw [rowsK_set n 5 _ i 4 d (by omega)] at s4
  rw [Nat.add_zero] at s4
  have e9 : rowsK n 5 (fun p q => if p = i then five v a b c d q else U p q) = rowsK n 5 (fun p q => if p = i ∧ q = 4 then d else if p = i ∧ q = 3 then c else if p = i ∧ q = 2 then b else if p = i ∧ q = 1 then a else if p = i ∧ q = 0 then v else U p q) := by
    apply rowsK_congr
    intro p q _ hq
    by_cases ep : p = i
    · subst ep
      have : q = 0 ∨ q = 1 ∨ q = 2 ∨ q = 3 ∨ q = 4 := by omega
      rcases this with rfl | rfl | rfl | rfl | rfl <;> simp [five]
    · simp [ep]
  rw [e9]
  exact s4
theorem fillZ {α : Type} (z : α) (a : List α) (i : Nat) (h : i < a.length) : (a.take i ++ List.replicate (a.length - i) z).set i a[i] = a.take (i + 1) ++ List.replicate (a.length - (i + 1)) z := by
  rw [List.set_append_right _ _ (by simp; omega)]
  have e1 : i - (a.take i).length = 0 := by simp; omega
  rw [e1, show a.length - i = (a.length - (i + 1)) + 1 by omega, List.replicate_succ, List.set_cons_zero, List.take_succ_eq_append_getElem h, List.append_assoc]
  rfl

set_option maxRecDepth 20000 in
set_option maxHeartbeats 3200000 in
theorem toScanSC : ToC 27 RdSs OwSs (szR szSc) := by
  intro w u a hq hs
  obtain ⟨ao, cap, rfl, hel⟩ := hq
  obtain ⟨i0, hi, hz0, hz1, hz2⟩ := info_parts info_scan
  have HEL := hide hel
  have hlen := szR_len szSc a
  have HSE := hide (fun i h => (szR_el szSc a i h).2)
  obtain ⟨n, HN⟩ : ∃ n, Hid (a.length = n) := ⟨_, rfl⟩
  have hn : n ≤ 1048576 := by have := unhide HN; omega
  have HS := hide hs
  rw [unhide HN]
  clear hel hs hlen
  go_enter Try.func27, Try.ntmps27
  go_wp2_with (at_make; refine wpList_make_full _ rfl _ _ 27 rfl w.heap.size 38 i0 _ 5 Try.underlying27 hi hz0 hz1 .i64 .i64 _ _ n rfl rfl rfl rfl (by rw [hz2]; omega) (by unfold maxLen; omega) (Nat.le_refl _) ?_)
  intro w1 hown hgrow
  have em : (madeCells (#[Value.slice none 0 0, .int .i64 0, .int .i64 0, .int .i64 0, .int .i64 0] : Array Value) (n * 5)).toList = rowsK n 5 (fun _ b => (#[Value.slice none 0 0, .int .i64 0, .int .i64 0, .int .i64 0, .int .i64 0] : Array Value).getD b default) := madeK #[Value.slice none 0 0, .int .i64 0, .int .i64 0, .int .i64 0, .int .i64 0] n (by decide)
  have hown2 : w1.ownsRow w.heap.size 38 5 (.slice (some ⟨w.heap.size, 0, none⟩) n n) n (rowsK n 5 (fun _ b => (#[Value.slice none 0 0, .int .i64 0, .int .i64 0, .int .i64 0, .int .i64 0] : Array Value).getD b default)) := by rw [← em]; exact hown
  have HO1 : Hid (OwSs w1 (.slice (some ⟨w.heap.size, 0, none⟩) n n) (a.take 0 ++ List.replicate (a.length - 0) Scn.zero) (blk (.slice (some ⟨w.heap.size, 0, none⟩) n n))) := by
    rw [List.take_zero, List.nil_append, Nat.sub_zero, unhide HN]
    exact OwG.made (zc := fun b => (#[Value.slice none 0 0, .int .i64 0, .int .i64 0, .int .i64 0, .int .i64 0] : Array Value).getD b default) (fun w => ⟨⟨rfl, rfl, rfl, rfl⟩, OwI.nil .i64 3 w⟩) hown2
  have HG1 := hide hgrow
  have HF1 : Hid (∀ g ∈ blk (.slice (some ⟨w.heap.size, 0, none⟩) n n), w.heap.size ≤ g) := fun g hg => by have : w.heap.size = g := Option.some.inj (mem_blk.1 hg); omega
  clear hown hown2 hgrow hi hz0 hz1 hz2 em
  go_wp2
  go_loopw [4] (fun iv wr => ∃ (i : Nat) (F : List Nat), i ≤ n ∧ iv = .int .i64 i ∧ Hid (OwSs wr (.slice (some ⟨w.heap.size, 0, none⟩) n n) (a.take i ++ List.replicate (a.length - i) Scn.zero) F) ∧ Hid F.Nodup ∧ Hid (∀ g ∈ F, w.heap.size ≤ g) ∧ Hid (w.grownBy wr none)) (fun iv _ => n - (intOf iv).toNat)
  case atStart => exact ⟨0, _, Nat.zero_le _, rfl, HO1, blk_nodup _, HF1, HG1⟩
  case round =>
    clear HO1 HG1 HF1
    obtain ⟨i, F, hin, rfl, ho, hnd, hF, hg⟩ := hrel
    by_cases hlt : i < n
    · have hia : i < a.length := by rw [unhide HN]; exact hlt
      obtain ⟨b, off, c, rfl, k0, k1, q0⟩ := unhide HEL i hia
      obtain ⟨d0, d1, d2, d3, d4⟩ := rowScan (fun j hj => (unhide hg).cell (k0 j hj) (by simp)) k1
      have HT := hide (toScanC wr (scV (c 0) a[i]) a[i] ⟨_, rfl, RdI.st .i64 _ _ _ _ q0 (unhide hg)⟩ (Nat.le_trans (unhide HSE i hia) (unhide HS)))
      obtain ⟨vo, vc, ev, -⟩ := q0
      rw [ev] at HT d0
      unfold scV at HT
      have hiI : (i : Int) < (n : Int) := by omega
      obtain ⟨A, HAA⟩ : ∃ A, Hid (a[i] = A) := ⟨_, hide rfl⟩
      rw [unhide HAA] at HT d0 d1 d2 d3 d4
      clear k0 k1 ev
      go_wp2_with fail
      refine (unhide HT).mono ?_
      rintro e w2 ⟨u', F', rfl, ⟨v2, rfl, p2⟩, n2, b2, g2⟩
      obtain ⟨p3, rfl⟩ := p2
      obtain ⟨uo, uc, rfl⟩ := own_form p3
      have ho2 := OwSs.ok.keep (unhide ho) g2
      have hll : i < (a.take i ++ List.replicate (a.length - i) Scn.zero).length := by simp; omega
      have ell : (a.take i ++ List.replicate (a.length - i) Scn.zero).length = n := by have := unhide HN; simp; omega
      obtain ⟨g0, cap0, c2, Fi, e0, hg0, hg0n, cc, ff, hpi, hni, hsi, -, hback⟩ := OwG.turn OwScE.ok ho2 (unhide hnd) i hll
      obtain ⟨e1, -, -⟩ := Value.slice.inj e0
      obtain rfl : w.heap.size = g0 := by simpa using e1
      have x0 := cc 0 (by omega)
      have x1 := cc 1 (by omega)
      have x2 := cc 2 (by omega)
      have x3 := cc 3 (by omega)
      have x4 := cc 4 (by omega)
      rw [Nat.add_zero] at x0
      have y0 := ff (i * 5)
      have y1 := ff (i * 5 + 1)
      have y2 := ff (i * 5 + 2)
      have y3 := ff (i * 5 + 3)
      have y4 := ff (i * 5 + 4)
      obtain ⟨vn, HVN⟩ : ∃ vn, Hid (A.cs.length = vn) := ⟨_, rfl⟩
      rw [unhide HVN] at p3 b2 ⊢
      have hsz := (unhide hg).size
      have hgW : w.heap.size < wr.heap.size := OwSs.ok.lt _ _ _ _ (unhide ho) _ hg0
      have hblk : ∀ x, (Value.slice uo vn uc).ownBlock = some x → wr.heap.size ≤ x := fun x hx => b2 x (mem_blk.2 hx)
      have GS := grown_trans (grown_trans (grown_trans (grown_trans (grown_set w2 w.heap.size (i * 5) (.slice uo vn uc)) (grown_set _ w.heap.size (i * 5 + 1) (.int .i64 A.fr))) (grown_set _ w.heap.size (i * 5 + 2) (.int .i64 A.to))) (grown_set _ w.heap.size (i * 5 + 3) (.int .i64 A.hi))) (grown_set _ w.heap.size (i * 5 + 4) (.int .i64 A.lo))
      obtain ⟨F3, o3, n3, m3⟩ := hback _ (five (.slice uo vn uc) (.int .i64 A.fr) (.int .i64 A.to) (.int .i64 A.hi) (.int .i64 A.lo)) A (blk (.slice uo vn uc)) (Wr.ofRow GS (fun x e => by have : w.heap.size = x := Option.some.inj e; simp [this])) (fun U h => by rw [ell] at h ⊢; exact own5 h i _ _ _ _ _) ⟨⟨rfl, rfl, rfl, rfl⟩, by
          show _ ∧ _
          refine ⟨?_, rfl⟩
          rw [unhide HVN]
          exact own_beneath p3 GS (fun p q h1 h2 => by have := hblk p h1; have : w.heap.size = q := Option.some.inj h2; omega)⟩ (blk_nodup _) (fun x hx => .inr (fun hx2 => by
        have h1 := hblk x (mem_blk.1 hx)
        have h2 := OwSs.ok.lt _ _ _ _ (unhide ho) x hx2
        omega))
      rw [← unhide HAA, fillZ Scn.zero a i hia, unhide HAA] at o3
      have HO3 := hide o3
      have HF3 : Hid (∀ g ∈ F3, w.heap.size ≤ g) := fun g hg3 => by
        rcases m3 g hg3 with h | h
        · exact unhide hF g h
        · have := hblk g (mem_blk.1 h); omega
      have HG3 := hide (grown_new (grown_trans (unhide hg) g2) GS (fun k e => by have : w.heap.size = k := Option.some.inj e; omega))
      have HN3 := hide n3
      clear ho2 o3 n3 m3 p3 n2 b2 g2 HT ho hnd hF hg e0 e1 hback hpi hni hsi cc ff hblk GS hg0 hg0n d0 d1 d2 d3 d4
      unfold scV
      go_wp2
      go_roundw
      case rel => exact ⟨i + 1, F3, by omega, by go_num, HO3, HN3, HF3, HG3⟩
      case measure => simp [intOf]; omega
    · obtain rfl : i = n := by omega
      have HO4 : Hid (OwSs wr (.slice (some ⟨w.heap.size, 0, none⟩) i i) a F) := by
        have h := unhide ho
        rw [← unhide HN, List.take_length, Nat.sub_self, List.replicate_zero, List.append_nil, unhide HN] at h
        exact h
      clear ho
      go_wp2
      go_ret
      exact ⟨_, F, rfl, unhide HO4, unhide hnd, unhide hF, unhide hg⟩

end Go.Proofs.Ytnjcmlmgjoaeeaa

namespace Go.Proofs.Ytnjcmlmgjoaeeaa
open Go.RowKit

def cntSc (a : Scn) : Nat := lenI a.cs + 4
def mkSc (a : Scn) (k : Int) : Scn := ⟨mkI a.cs k, k + lenI a.cs, k + lenI a.cs + 1, k + lenI a.cs + 2, k + lenI a.cs + 3⟩

set_option maxRecDepth 20000 in
set_option maxHeartbeats 3200000 in
theorem heldScanSC : HeldC 35 RdSs (mkR mkSc cntSc) (cntR cntSc) (szR szSc) := by
  intro w u a k hq hs hk0 hk1
  obtain ⟨ao, cap, rfl, hel⟩ := hq
  have HEL := hide hel
  have hlen := szR_len szSc a
  have HSE := hide (fun i h => (szR_el szSc a i h).2)
  rw [mkR_len]
  obtain ⟨n, HN⟩ : ∃ n, Hid (a.length = n) := ⟨_, rfl⟩
  have hn : n ≤ 1048576 := by have := unhide HN; omega
  have HS := hide hs
  obtain ⟨tot, HTOT⟩ : ∃ tot, Hid (cntR cntSc a = tot) := ⟨_, rfl⟩
  rw [unhide HTOT] at hk1 ⊢
  rw [unhide HN]
  clear hel hs hlen
  go_enter Try.func35, Try.ntmps35
  go_wp2
  go_loopw [1, 5] (fun kv iv wr => ∃ (i c : Nat), i ≤ n ∧ iv = .int .i64 i ∧ kv = .int .i64 (k + (c : Int)) ∧ Hid (cntR cntSc (a.take i) = c) ∧ Hid (w.grownBy wr none)) (fun _ iv _ => n - (intOf iv).toNat)
  case atStart => exact ⟨0, 0, Nat.zero_le _, rfl, by simp, rfl, World.grownBy.refl _ _⟩
  case round =>
    obtain ⟨i, c, hin, rfl, rfl, hc, hg⟩ := hrel
    by_cases hlt : i < n
    · have hia : i < a.length := by rw [unhide HN]; exact hlt
      have hnx := cntR_next cntSc a i hia
      have hle := cntR_le cntSc a (i + 1)
      rw [unhide hc] at hnx
      rw [hnx, unhide HTOT] at hle
      obtain ⟨b, off, cf, rfl, k0, k1, q0⟩ := unhide HEL i (by rw [mkR_len]; exact hia)
      rw [mkR_at mkSc cntSc a k i hia, unhide hc] at k1 q0
      obtain ⟨d0, d1, d2, d3, d4⟩ := rowScan k0 k1
      have hsz : lenI a[i].cs ≤ 1048576 := Nat.le_trans (unhide HSE i hia) (unhide HS)
      have HT := hide (heldIntSC wr (cf 0) a[i].cs (k + (c : Int)) (RdI.st .i64 _ _ _ _ q0 (unhide hg)) hsz (by omega) (by unfold cntSc at hle; omega))
      obtain ⟨le, HLE⟩ : ∃ le, Hid (lenI a[i].cs = le) := ⟨_, hide rfl⟩
      obtain ⟨vo, vc, ev, -⟩ := q0
      obtain ⟨vn, HVN⟩ : ∃ vn, Hid ((mkSc a[i] (k + (c : Int))).cs.length = vn) := ⟨_, hide rfl⟩
      rw [unhide HVN] at ev
      have f1 : (mkSc a[i] (k + (c : Int))).fr = k + (c : Int) + (le : Int) := by rw [← unhide HLE]; rfl
      have f2 : (mkSc a[i] (k + (c : Int))).to = k + (c : Int) + (le : Int) + 1 := by rw [← unhide HLE]; rfl
      have f3 : (mkSc a[i] (k + (c : Int))).hi = k + (c : Int) + (le : Int) + 2 := by rw [← unhide HLE]; rfl
      have f4 : (mkSc a[i] (k + (c : Int))).lo = k + (c : Int) + (le : Int) + 3 := by rw [← unhide HLE]; rfl
      have f5 : cntSc a[i] = le + 4 := by rw [← unhide HLE]; rfl
      rw [f1] at d1
      rw [f2] at d2
      rw [f3] at d3
      rw [f4] at d4
      rw [f5] at hnx hle
      rw [ev] at d0 HT
      rw [unhide HLE] at HT
      have HNX := hide hnx
      have hiI : (i : Int) < (n : Int) := by omega
      obtain ⟨m, hm⟩ : ∃ m : Int, k + (c : Int) + (le : Int) = m := ⟨_, rfl⟩
      rw [hm] at d1 d2 d3 d4 HT
      have hm0 : 0 ≤ m ∧ m + 4 ≤ 16777216 := by omega
      have HM := hide hm
      have g0 := (unhide hg).cell d0 (by simp)
      have HDD := hide (And.intro d1 (And.intro d2 (And.intro d3 d4)))
      clear k0 k1 hnx f1 f2 f3 f4 f5 ev d0 d1 d2 d3 d4 hm
      go_wp2_with fail
      refine (unhide HT).mono ?_
      rintro e w2 ⟨rfl, g2⟩
      have G2 := grown_trans (unhide hg) g2
      have d1 := G2.cell (unhide HDD).1 (by simp)
      have d2 := G2.cell (unhide HDD).2.1 (by simp)
      have d3 := G2.cell (unhide HDD).2.2.1 (by simp)
      have d4 := G2.cell (unhide HDD).2.2.2 (by simp)
      have HG2 := hide G2
      clear G2 g2 HT hg g0 HDD
      have hneg : decide (m < 0) = false := decide_eq_false (by omega)
      have e1 := i64_in (m + 1) (by omega)
      have e2 := i64_in (m + 2) (by omega)
      have e3 := i64_in (m + 3) (by omega)
      have e4 := i64_in (m + 4) (by omega)
      have s1 : m + 1 + 1 = m + 2 := by omega
      have s2 : m + 2 + 1 = m + 3 := by omega
      have s3 : m + 3 + 1 = m + 4 := by omega
      have n0 : (m != m) = false := by simp
      have n1 : (m + 1 != m + 1) = false := by simp
      have n2 : (m + 2 != m + 2) = false := by simp
      have n3 : (m + 3 != m + 3) = false := by simp
      go_wp2
      go_roundw
      case rel => exact ⟨i + 1, c + (le + 4), by omega, by go_num, by congr 1; have := unhide HM; omega, HNX, HG2⟩
      case measure => simp [intOf]; omega
    · obtain rfl : i = n := by omega
      have hct : c = tot := by rw [← unhide hc, ← unhide HN, cntR_all]; exact unhide HTOT
      subst hct
      go_wp2
      go_ret
      exact ⟨rfl, unhide hg⟩

theorem own4 {w : World} {g cap n base : Nat} {e : TypeId} {U : Nat → Nat → Value} (h : w.ownsRow base e 5 (.slice (some ⟨g, 0, none⟩) n cap) n (rowsK n 5 U)) (i : Nat) (v a b c d : Value) (hv : U i 0 = v) :
    ((((w.setCell ⟨g, i * 5 + 1, none⟩ a).setCell ⟨g, i * 5 + 2, none⟩ b).setCell ⟨g, i * 5 + 3, none⟩ c).setCell ⟨g, i * 5 + 4, none⟩ d).ownsRow base e 5 (.slice (some ⟨g, 0, none⟩) n cap) n (rowsK n 5 (fun p q => if p = i then five v a b c d q else U p q)) := by
  have s1 := (h.stored (i * 5 + 1) a).1
  rw [rowsK_set n 5 _ i 1 a (by omega)] at s1
  have s2 := (s1.stored (i * 5 + 2) b).1
  rw [rowsK_set n 5 _ i 2 b (by omega)] at s2
  have s3 := (s2.stored (i * 5 + 3) c).1
  rw [rowsK_set n 5 _ i 3 c (by omega)] at s3
  have s4 := (s3.stored (i * 5 + 4) d).1
  rw [rowsK_set n 5 _ i 4 d (by omega)] at s4
  have e9 : rowsK n 5 (fun p q => if p = i then five v a b c d q else U p q) = rowsK n 5 (fun p q => if p = i ∧ q = 4 then d else if p = i ∧ q = 3 then c else if p = i ∧ q = 2 then b else if p = i ∧ q = 1 then a else U p q) := by
    apply rowsK_congr
    intro p q _ hq
    by_cases ep : p = i
    · subst ep
      have : q = 0 ∨ q = 1 ∨ q = 2 ∨ q = 3 ∨ q = 4 := by omega
      rcases this with rfl | rfl | rfl | rfl | rfl <;> simp [five, hv]
    · simp [ep]
  rw [e9]
  exact s4

set_option maxRecDepth 20000 in
set_option maxHeartbeats 3200000 in
theorem markScanSC : MarkC 31 OwSs (mkR mkSc cntSc) (cntR cntSc) (szR szSc) := by
  intro w u a F k hp hnd hs hk0 hk1
  obtain ⟨ao, cap, rfl⟩ := hp.form
  have HND := hide hnd
  have hlen := szR_len szSc a
  have HSE := hide (fun i h => (szR_el szSc a i h).2)
  have H0 : Hid (OwSs w (.slice ao a.length cap) (overR mkSc cntSc a k 0) F) := hp
  obtain ⟨n, HN⟩ : ∃ n, Hid (a.length = n) := ⟨_, rfl⟩
  have hn : n ≤ 1048576 := by have := unhide HN; omega
  have HS := hide hs
  obtain ⟨tot, HTOT⟩ : ∃ tot, Hid (cntR cntSc a = tot) := ⟨_, rfl⟩
  rw [unhide HTOT] at hk1 ⊢
  rw [unhide HN] at H0 ⊢
  obtain ⟨A2, HA2⟩ : ∃ A2, Hid (mkR mkSc cntSc a k = A2) := ⟨_, rfl⟩
  rw [unhide HA2]
  clear hp hs hlen hnd
  go_enter Try.func31, Try.ntmps31
  go_wp2
  go_loopw [1, 5] (fun kv iv wr => ∃ (i c : Nat), i ≤ n ∧ iv = .int .i64 i ∧ kv = .int .i64 (k + (c : Int)) ∧ Hid (cntR cntSc (a.take i) = c) ∧ Hid (OwSs wr (.slice ao n cap) (overR mkSc cntSc a k i) F) ∧ Hid (Wr F w wr)) (fun _ iv _ => n - (intOf iv).toNat)
  case atStart => exact ⟨0, 0, Nat.zero_le _, rfl, by simp, rfl, H0, Wr.refl _ _⟩
  case round =>
    clear H0
    obtain ⟨i, c, hin, rfl, rfl, hc, ho, hw⟩ := hrel
    by_cases hlt : i < n
    · have hia : i < a.length := by rw [unhide HN]; exact hlt
      have ell : (overR mkSc cntSc a k i).length = n := by rw [overR_len _ _ _ _ _ (by omega)]; exact unhide HN
      have hol : i < (overR mkSc cntSc a k i).length := by omega
      have hnx := cntR_next cntSc a i hia
      have hle := cntR_le cntSc a (i + 1)
      rw [unhide hc] at hnx
      rw [hnx, unhide HTOT] at hle
      obtain ⟨g, cap0, cf, Fi, e0, hgF, hgn, hcf, p0, nd0, sub0, back⟩ := OwG.at OwScE.ok (unhide ho) (unhide HND) i hol
      rw [overR_at mkSc cntSc a k i hia] at p0
      obtain ⟨rfl, rfl⟩ : ao = some ⟨g, 0, none⟩ ∧ cap = cap0 := by simp at e0; exact ⟨e0.1, e0.2.2⟩
      obtain ⟨k1, p1⟩ := p0
      have hsz : lenI a[i].cs ≤ 1048576 := Nat.le_trans (unhide HSE i hia) (unhide HS)
      have HT := hide (markIntSC wr (cf 0) a[i].cs Fi (k + (c : Int)) p1 nd0 hsz (by omega) (by unfold cntSc at hle; omega))
      obtain ⟨vo, vc, ev⟩ := own_form p1.1
      obtain ⟨le, HLE⟩ : ∃ le, Hid (lenI a[i].cs = le) := ⟨_, hide rfl⟩
      obtain ⟨vn, HVN⟩ : ∃ vn, Hid (a[i].cs.length = vn) := ⟨_, hide rfl⟩
      have f5 : cntSc a[i] = le + 4 := by rw [← unhide HLE]; rfl
      rw [f5] at hnx hle
      rw [unhide HVN] at ev
      have x0 := (hcf wr (Wr.refl _ _)).1 0 (by omega)
      rw [Nat.add_zero, ev] at x0
      rw [ev, unhide HLE] at HT
      have HNX := hide hnx
      have hiI : (i : Int) < (n : Int) := by omega
      obtain ⟨m, hm⟩ : ∃ m : Int, k + (c : Int) + (le : Int) = m := ⟨_, rfl⟩
      rw [hm] at HT
      have hm0 : 0 ≤ m ∧ m + 4 ≤ 16777216 := by omega
      have HM := hide hm
      have HBK := hide back
      have HSB := hide sub0
      have HCF := hide hcf
      have HEV := hide ev
      clear p1 nd0 back sub0 e0 hnx k1 f5 hm hcf ev
      go_wp2_with fail
      refine (unhide HT).mono ?_
      rintro e w2 ⟨rfl, p2, g2⟩
      obtain ⟨hcc, hff⟩ := unhide HCF w2 g2
      have x1 := hcc 1 (by omega)
      have x2 := hcc 2 (by omega)
      have x3 := hcc 3 (by omega)
      have x4 := hcc 4 (by omega)
      have y1 := hff (i * 5 + 1)
      have y2 := hff (i * 5 + 2)
      have y3 := hff (i * 5 + 3)
      have y4 := hff (i * 5 + 4)
      have GS := grown_trans (grown_trans (grown_trans (grown_set w2 g (i * 5 + 1) (.int .i64 m)) (grown_set _ g (i * 5 + 2) (.int .i64 (m + 1)))) (grown_set _ g (i * 5 + 3) (.int .i64 (m + 2)))) (grown_set _ g (i * 5 + 4) (.int .i64 (m + 3)))
      have hWG : Wr [g] w2 ((((w2.setCell ⟨g, i * 5 + 1, none⟩ (.int .i64 m)).setCell ⟨g, i * 5 + 2, none⟩ (.int .i64 (m + 1))).setCell ⟨g, i * 5 + 3, none⟩ (.int .i64 (m + 2))).setCell ⟨g, i * 5 + 4, none⟩ (.int .i64 (m + 3))) := Wr.ofRow GS (fun x e => by have : g = x := Option.some.inj e; simp [this])
      have h2 := unhide HBK w2 _ (five (.slice vo vn vc) (.int .i64 m) (.int .i64 (m + 1)) (.int .i64 (m + 2)) (.int .i64 (m + 3))) (mkSc a[i] (k + (c : Int))) g2 hWG (fun U h hU => by
        rw [ell] at h ⊢
        exact own4 h i _ _ _ _ _ (by rw [hU 0 (by omega)]; exact unhide HEV)) ⟨by
          have e1 : (mkSc a[i] (k + (c : Int))).fr = m := by rw [← unhide HM, ← unhide HLE]; rfl
          have e2 : (mkSc a[i] (k + (c : Int))).to = m + 1 := by rw [← unhide HM, ← unhide HLE]; rfl
          have e3 : (mkSc a[i] (k + (c : Int))).hi = m + 2 := by rw [← unhide HM, ← unhide HLE]; rfl
          have e4 : (mkSc a[i] (k + (c : Int))).lo = m + 3 := by rw [← unhide HM, ← unhide HLE]; rfl
          unfold scC
          rw [e1, e2, e3, e4]
          exact ⟨rfl, rfl, rfl, rfl⟩, ok1.wr p2 hWG (fun x hx e => by simp at e; subst e; exact hgn hx)⟩
      rw [← unhide hc, overR_set mkSc cntSc a k i hia] at h2
      have HO2 := hide h2
      have HW2 := hide (((unhide hw).trans (g2.mono (unhide HSB))).trans (hWG.mono (fun x hx => by simp at hx; subst hx; exact hgF)))
      have e1 := i64_in (m + 1) (by omega)
      have e2 := i64_in (m + 2) (by omega)
      have e3 := i64_in (m + 3) (by omega)
      have e4 := i64_in (m + 4) (by omega)
      have s1 : m + 1 + 1 = m + 2 := by omega
      have s2 : m + 2 + 1 = m + 3 := by omega
      have s3 : m + 3 + 1 = m + 4 := by omega
      clear p2 g2 h2 HT HBK HSB ho hw hcc hff GS hWG HCF hgF hgn x0
      go_wp2
      go_roundw
      case rel => exact ⟨i + 1, c + (le + 4), by omega, by go_num, by congr 1; have := unhide HM; omega, HNX, HO2, HW2⟩
      case measure => simp [intOf]; omega
    · obtain rfl : i = n := by omega
      have HO4 : Hid (OwSs wr (.slice ao i cap) A2 F) := by
        have h := unhide ho
        have e9 : overR mkSc cntSc a k i = A2 := by rw [← unhide HN, overR_all]; exact unhide HA2
        rw [e9] at h
        exact h
      have hct : c = tot := by rw [← unhide hc, ← unhide HN, cntR_all]; exact unhide HTOT
      subst hct
      clear ho hc
      go_wp2
      go_ret
      exact ⟨rfl, unhide HO4, unhide hw⟩

end Go.Proofs.Ytnjcmlmgjoaeeaa

namespace Go.Proofs.Ytnjcmlmgjoaeeaa
open Go.RowKit

def RdScZ (w : World) (u : Value) (a : Scn) : Prop := ∃ v, u = scV v a ∧ RdZ (RdI .i64) w v a.cs
def RdScEZ (w : World) (c : Nat → Value) (a : Scn) : Prop := scC c a ∧ RdZ (RdI .i64) w (c 0) a.cs
abbrev RdSsZ := RdZ (RdG 5 RdScEZ)
theorem RdSsZ.rd {w : World} {v : Value} {L : List Scn} (h : RdSsZ w v L) : RdSs w v L := by
  obtain ⟨⟨ao, cap, e, hel⟩, _⟩ := h
  exact ⟨ao, cap, e, fun i hi => by obtain ⟨b, off, c, e1, h1, h2, h3, _⟩ := hel i hi; exact ⟨b, off, c, e1, h1, h2, h3⟩⟩

set_option maxHeartbeats 800000 in
theorem szScanC (w : World) (u : Value) (a : Scn) (left : Nat) (hq : RdScZ w u a) (hl : left ≤ 1048576) (r : Int) (HR : Hid ((if szSc a ≤ left then (left : Int) - szSc a else -1) = r)) :
    Calls Try.prog 19 #[u, .int .i64 left] w fun e w' => e = .returned (.int .i64 r) ∧ w.grownBy w' none := by
  obtain ⟨v, rfl, hv⟩ := hq
  obtain ⟨cs, fr, to, hi, lo⟩ := a
  obtain ⟨⟨vo, vc, rfl, hr⟩, hm⟩ := id hv
  clear hr hm
  dsimp only at hv ⊢
  obtain ⟨vn, HVN⟩ : ∃ vn, Hid (cs.length = vn) := ⟨_, rfl⟩
  rw [unhide HVN] at hv ⊢
  have G0 : w.grownBy (w.alloc (.cells #[.slice vo vn vc, .int .i64 fr, .int .i64 to, .int .i64 hi, .int .i64 lo] 43)) none := World.grownBy_alloc _ _ _
  obtain ⟨c0, -, -, -, -⟩ := scanCells (heap_alloc_new w (.cells #[.slice vo vn vc, .int .i64 fr, .int .i64 to, .int .i64 hi, .int .i64 lo] 43))
  have HT := hide (szIntSC _ (.slice vo vn vc) cs left ⟨RdI.st .i64 _ _ _ _ hv.1 G0, hv.2⟩ hl)
  have e1 : (if lenI cs ≤ left then (left : Int) - lenI cs else -1) = r := unhide HR
  rw [e1] at HT
  have hrr : r = -1 ∨ (0 ≤ r ∧ r ≤ 1048576) := by
    rw [← e1]
    split
    · right; omega
    · left; rfl
  have HG0 := hide G0
  clear hv G0 e1 HR
  unfold scV
  dsimp only
  go_enter Try.func19, Try.ntmps19
  go_wp2_with fail
  refine (unhide HT).mono ?_
  rintro e w1 ⟨rfl, rfl⟩
  rcases hrr with rfl | h
  · go_wp2
    go_ret
    exact ⟨rfl, unhide HG0⟩
  · have hd : decide (r < 0) = false := decide_eq_false (by omega)
    go_wp2
    go_ret
    exact ⟨rfl, unhide HG0⟩

set_option maxRecDepth 20000 in
set_option maxHeartbeats 1600000 in
theorem szScanSC (w : World) (u : Value) (a : List Scn) (left : Nat) (hq : RdSsZ w u a) (hl : left ≤ 1048576) (res : Int) (HRES : Hid ((if szR szSc a ≤ left then (left : Int) - szR szSc a else -1) = res)) :
    Calls Try.prog 26 #[u, .int .i64 left] w fun e w' => e = .returned (.int .i64 res) ∧ w.grownBy w' none := by
  obtain ⟨⟨ao, cap, rfl, hel⟩, hmx⟩ := hq
  unfold maxLen at hmx
  have HEL := hide hel
  obtain ⟨n, HN⟩ : ∃ n, Hid (a.length = n) := ⟨_, rfl⟩
  have HSZ : Hid (szR szSc a = n + cntR szSc a) := by unfold Hid szR; rw [unhide HN]; rfl
  rw [unhide HN] at hmx ⊢
  have e1 := i64_in ((left : Int) - (n : Int)) (by omega)
  clear hel
  by_cases hnl : n ≤ left
  · have hd : decide ((left : Int) - (n : Int) < 0) = false := decide_eq_false (by omega)
    go_enter Try.func26, Try.ntmps26
    go_wp2
    go_loopw [1, 5] (fun kv iv wr => ∃ (i c : Nat), i ≤ n ∧ iv = .int .i64 i ∧ kv = .int .i64 ((left : Int) - (n : Int) - (c : Int)) ∧ n + c ≤ left ∧ Hid (cntR szSc (a.take i) = c) ∧ Hid (w.grownBy wr none)) (fun _ iv _ => n - (intOf iv).toNat)
    case atStart => exact ⟨0, 0, Nat.zero_le _, rfl, by simp, by omega, rfl, World.grownBy.refl _ _⟩
    case round =>
      obtain ⟨i, c, hin, rfl, rfl, hcl, hc, hg⟩ := hrel
      by_cases hlt : i < n
      · have hia : i < a.length := by rw [unhide HN]; exact hlt
        have hnx := cntR_next szSc a i hia
        have hle := cntR_le szSc a (i + 1)
        rw [unhide hc] at hnx
        obtain ⟨b, off, cf, rfl, k0, k1, q0⟩ := unhide HEL i hia
        obtain ⟨d0, d1, d2, d3, d4⟩ := rowScan (fun j hj => (unhide hg).cell (k0 j hj) (by simp)) k1
        obtain ⟨lf, hlf⟩ : ∃ lf : Nat, left - n - c = lf := ⟨_, rfl⟩
        have e2 : (left : Int) - (n : Int) - (c : Int) = (lf : Int) := by omega
        obtain ⟨ce, HCE⟩ : ∃ ce, Hid (szSc a[i] = ce) := ⟨_, hide rfl⟩
        obtain ⟨rr, HRR⟩ : ∃ rr : Int, Hid ((if szSc a[i] ≤ lf then (lf : Int) - szSc a[i] else -1) = rr) := ⟨_, hide rfl⟩
        have HT := hide (szScanC wr (scV (cf 0) a[i]) a[i] lf ⟨_, rfl, RdI.st .i64 _ _ _ _ q0.1 (unhide hg), q0.2⟩ (by omega) rr HRR)
        obtain ⟨⟨vo, vc, ev, -⟩, -⟩ := q0
        rw [ev] at HT d0
        unfold scV at HT
        have hrr := unhide HRR
        rw [unhide HCE] at hnx hrr
        have hiI : (i : Int) < (n : Int) := by omega
        obtain ⟨A, HAA⟩ : ∃ A, Hid (a[i] = A) := ⟨_, hide rfl⟩
        rw [unhide HAA] at HT d0 d1 d2 d3 d4
        obtain ⟨vn, HVN⟩ : ∃ vn, Hid (A.cs.length = vn) := ⟨_, rfl⟩
        rw [unhide HVN] at HT d0
        rw [e2]
        clear k0 k1 ev HCE HRR
        by_cases hce : ce ≤ lf
        · rw [if_pos hce] at hrr
          have hneg : decide (rr < 0) = false := decide_eq_false (by omega)
          have HNX := hide hnx
          have HRQ : Hid (rr = (left : Int) - (n : Int) - ((c + ce : Nat) : Int)) := by unfold Hid; omega
          clear hnx hle hrr
          go_wp2_with fail
          refine (unhide HT).mono ?_
          rintro e w2 ⟨rfl, g2⟩
          have HG2 := hide (grown_trans (unhide hg) g2)
          clear HT g2 hg d0 d1 d2 d3 d4
          go_wp2
          go_roundw
          case rel => exact ⟨i + 1, c + ce, by omega, by go_num, by rw [unhide HRQ], by omega, HNX, HG2⟩
          case measure => simp [intOf]; omega
        · rw [if_neg hce] at hrr
          have hres : res = -1 := by
            rw [← unhide HRES, if_neg]
            rw [unhide HSZ]
            omega
          subst hres
          subst hrr
          clear hnx hle
          go_wp2_with fail
          refine (unhide HT).mono ?_
          rintro e w2 ⟨rfl, g2⟩
          have HG2 := hide (grown_trans (unhide hg) g2)
          clear HT g2 hg d0 d1 d2 d3 d4
          go_wp2
          go_ret
          exact ⟨rfl, unhide HG2⟩
      · obtain rfl : i = n := by omega
        have hct : cntR szSc a = c := by rw [← unhide hc, ← unhide HN, cntR_all]
        have hres : res = (left : Int) - (i : Int) - (c : Int) := by
          rw [← unhide HRES, unhide HSZ, hct, if_pos (by omega)]
          omega
        subst hres
        clear hc hct
        go_wp2
        go_ret
        exact ⟨rfl, unhide hg⟩
  · have hd : decide ((left : Int) - (n : Int) < 0) = true := decide_eq_true (by omega)
    have hres : res = -1 := by
      rw [← unhide HRES, if_neg]
      rw [unhide HSZ]
      omega
    subst hres
    go_enter Try.func26, Try.ntmps26
    go_wp2
    go_ret
    exact ⟨rfl, World.grownBy.refl _ _⟩

end Go.Proofs.Ytnjcmlmgjoaeeaa

namespace Go.Proofs.Ytnjcmlmgjoaeeaa
open Go.RowKit

def compB (c : Nat → Int) : Bool := decide (0 ≤ c 0 ∧ c 0 ≤ 255) && (decide (1 ≤ c 1 ∧ c 1 ≤ 4) && (decide (1 ≤ c 2 ∧ c 2 ≤ 4) && decide (0 ≤ c 3 ∧ c 3 ≤ 3)))
/-- Whether one of the first m components has the Id of component k. -/
def idIn (C : Nat → Nat → Int) (k : Nat) : Nat → Bool
  | 0 => false
  | m + 1 => idIn C k m || (C m 0 == C k 0)
def okTo (C : Nat → Nat → Int) : Nat → Bool
  | 0 => true
  | k + 1 => okTo C k && (compB (C k) && !idIn C k k)
def sumHV (C : Nat → Nat → Int) : Nat → Int
  | 0 => 0
  | k + 1 => sumHV C k + C k 1 * C k 2
def headB (p wd ht rs : Int) : Bool := (p == 8 || p == 12) && (decide (1 ≤ wd ∧ wd ≤ 256) && (decide (1 ≤ ht ∧ ht ≤ 256) && (decide (wd * ht ≤ 16384) && decide (0 ≤ rs ∧ rs ≤ 255))))
def compsB (n : Nat) (C : Nat → Nat → Int) : Bool := decide (1 ≤ (n : Int) ∧ (n : Int) ≤ 4) && (okTo C n && decide (sumHV C n ≤ 10))
def frameB (p wd ht rs : Int) (n : Nat) (C : Nat → Nat → Int) : Bool := headB p wd ht rs && compsB n C

theorem okTo_false {C : Nat → Nat → Int} {k : Nat} (h : okTo C k = false) : ∀ n, k ≤ n → okTo C n = false := by
  intro n hn
  induction n with
  | zero => obtain rfl : k = 0 := by omega
            exact h
  | succ n ih =>
    by_cases e : k = n + 1
    · subst e; exact h
    · simp [okTo, ih (by omega)]
theorem okTo_true {C : Nat → Nat → Int} {n : Nat} (h : okTo C n = true) : ∀ k, k ≤ n → okTo C k = true := by
  intro k hk
  cases hc : okTo C k with
  | true => rfl
  | false => rw [okTo_false hc n hk] at h; exact h
theorem compB_bounds {c : Nat → Int} (h : compB c = true) : (0 ≤ c 0 ∧ c 0 ≤ 255) ∧ (1 ≤ c 1 ∧ c 1 ≤ 4) ∧ (1 ≤ c 2 ∧ c 2 ≤ 4) ∧ 0 ≤ c 3 ∧ c 3 ≤ 3 := by
  simpa [compB] using h
theorem mul_small {a b : Int} (ha : 1 ≤ a ∧ a ≤ 4) (hb : 1 ≤ b ∧ b ≤ 4) : 1 ≤ a * b ∧ a * b ≤ 16 := by
  obtain ⟨a0, a1⟩ := ha
  have : a = 1 ∨ a = 2 ∨ a = 3 ∨ a = 4 := by omega
  rcases this with rfl | rfl | rfl | rfl <;> omega
theorem mul_side {a b : Int} (ha : 1 ≤ a ∧ a ≤ 256) (hb : 1 ≤ b ∧ b ≤ 256) : 1 ≤ a * b ∧ a * b ≤ 65536 := by
  obtain ⟨a0, a1⟩ := ha
  obtain ⟨b0, b1⟩ := hb
  have h1 : 1 * 1 ≤ a * b := Int.mul_le_mul a0 b0 (by omega) (by omega)
  have h2 : a * b ≤ 256 * 256 := Int.mul_le_mul a1 b1 (by omega) (by omega)
  omega
theorem sumHV_bounds {C : Nat → Nat → Int} : ∀ k, okTo C k = true → 0 ≤ sumHV C k ∧ sumHV C k ≤ 16 * k
  | 0, _ => by simp [sumHV]
  | k + 1, h => by
    simp only [okTo, Bool.and_eq_true] at h
    have ih := sumHV_bounds k h.1
    obtain ⟨_, h1, h2, _⟩ := compB_bounds h.2.1
    have := mul_small h1 h2
    simp only [sumHV]
    omega
theorem idIn_congr {C D : Nat → Nat → Int} {k : Nat} (hk : C k = D k) : ∀ m, (∀ i, i < m → C i = D i) → idIn C k m = idIn D k m
  | 0, _ => rfl
  | m + 1, h => by simp only [idIn]; rw [idIn_congr hk m (fun i hi => h i (by omega)), h m (by omega), hk]
theorem okTo_congr {C D : Nat → Nat → Int} : ∀ k, (∀ i, i < k → C i = D i) → okTo C k = okTo D k
  | 0, _ => rfl
  | k + 1, h => by
    simp only [okTo]
    rw [okTo_congr k (fun i hi => h i (by omega)), h k (by omega), idIn_congr (h k (by omega)) k (fun i hi => h i (by omega))]
theorem sumHV_congr {C D : Nat → Nat → Int} : ∀ k, (∀ i, i < k → C i = D i) → sumHV C k = sumHV D k
  | 0, _ => rfl
  | k + 1, h => by simp only [sumHV]; rw [sumHV_congr k (fun i hi => h i (by omega)), h k (by omega)]
theorem compsB_congr {C D : Nat → Nat → Int} {n : Nat} (h : n ≤ 4 → ∀ i, i < n → C i = D i) : compsB n C = compsB n D := by
  by_cases hn : n ≤ 4
  · simp only [compsB]; rw [okTo_congr n (h hn), sumHV_congr n (h hn)]
  · have e : decide (1 ≤ (n : Int) ∧ (n : Int) ≤ 4) = false := by simp; omega
    simp only [compsB, e, Bool.false_and]
theorem idIn_true {C : Nat → Nat → Int} {k m : Nat} (h : (C m 0 == C k 0) = true) : ∀ n, m < n → idIn C k n = true := by
  intro n hn
  induction n with
  | zero => omega
  | succ n ih =>
    by_cases e : m = n
    · subst e; simp only [idIn, h, Bool.or_true]
    · simp only [idIn, ih (by omega), Bool.true_or]
theorem headB_facts {p wd ht rs : Int} (h : headB p wd ht rs = true) : (p = 8 ∨ p = 12) ∧ (1 ≤ wd ∧ wd ≤ 256) ∧ (1 ≤ ht ∧ ht ≤ 256) ∧ wd * ht ≤ 16384 ∧ 0 ≤ rs ∧ rs ≤ 255 := by
  simpa [headB] using h

end Go.Proofs.Ytnjcmlmgjoaeeaa

namespace Go.Proofs.Ytnjcmlmgjoaeeaa
open Go.RowKit

theorem wpList_load_row {P : Program} {ops : Array Oper} {rest : List Oper} {op : Oper} {a : Act} {w : World} {Q : Exit → Act → World → Prop} (hw : Region.wanted op (yielded ops a.tmps) = true) (ty : TypeId) (x : Operand) (ho : op.op = .load ty x)
    (b : Nat) (hx : a.eval x = .pointer (some ⟨b, 0, none⟩)) (X : Array Value) (t : TypeId) (hb : w.heap[b]? = some (.cells X t (0, 0))) (d : TypeDesc)
    (hu : P.underlying ty = some d) (hd : d.isRow = true) (hi : (P.info? ty).map (·.size) = some X.size)
    (h : wpList P ops Q rest (a.put op.dst (.agg X)) w) : wpList P ops Q (op :: rest) a w :=
  BigFrame.wpList_want hw fun _ hK => wp_load_mid ty x ho b 0 hx X.toList d (fun j v hv => by rw [cell_of_row w b (0 + j) X t (0, 0) hb]; simpa using hv) hu hd (by simpa using hi) (hK _ _ (by simpa using h))

/-- The cells of a frame with its components inside. -/
structure Fx (X : Array Value) (p wd ht rs n : Int) (C : Nat → Nat → Int) : Prop where
  size : X.size = 21
  c0 : X[0]? = some (.int .i64 p)
  c1 : X[1]? = some (.int .i64 wd)
  c2 : X[2]? = some (.int .i64 ht)
  c3 : X[3]? = some (.int .i64 rs)
  c4 : X[4]? = some (.int .i64 n)
  comp : ∀ i j, i < 4 → j < 4 → X[5 + i * 4 + j]? = some (.int .i64 (C i j))

theorem inRange (n lo hi : Int) (t : Bool) (ht : Hid (decide (lo ≤ n ∧ n ≤ hi) = t)) (w : World) :
    Calls Try.prog 88 #[.int .i64 n, .int .i64 lo, .int .i64 hi] w fun e w' => e = .returned (.bool t) ∧ w = w' := by
  by_cases h1 : lo ≤ n
  · by_cases h2 : n ≤ hi
    · have e : t = true := by rw [← unhide ht]; simp [h1, h2]
      subst e
      go_enter Try.func88, Try.ntmps88
      go_wp2
      go_ret
      exact ⟨by simp, rfl⟩
    · have e : t = false := by rw [← unhide ht]; simp [h2]
      subst e
      go_enter Try.func88, Try.ntmps88
      go_wp2
      go_ret
      exact ⟨by simp, rfl⟩
  · have e : t = false := by rw [← unhide ht]; simp [h1]
    subst e
    have hd : decide (lo ≤ n) = false := by simpa using h1
    go_enter Try.func88, Try.ntmps88
    go_wp2
    go_ret
    exact ⟨rfl, rfl⟩

set_option maxHeartbeats 800000 in
theorem isNone_no (X : Array Value) (p wd ht rs n : Int) (C : Nat → Nat → Int) (hX : Fx X p wd ht rs n C) (hp : (p == 0) = false) (w : World) :
    Calls Try.prog 43 #[.agg X] w fun e w' => e = .returned (.bool false) ∧ w.grownBy w' none := by
  have hs := hX.size
  have h0 := hX.c0
  have h0' : X[0] = .int .i64 p := by rw [Array.getElem?_eq_getElem (by omega)] at h0; simpa using h0
  go_enter Try.func43, Try.ntmps43
  go_wp2_with (refine wpList_load_row rfl 71 _ rfl w.heap.size rfl X 71 (heap_alloc_new _ _) _ Try.underlying71 rfl (by rw [hs]; kernel_rfl) ?_)
  go_ret
  exact ⟨rfl, grown_alloc (World.grownBy.refl _ _) _⟩

theorem eqComps (w : World) : (Op.equalIn 9999 69 (.agg #[.int .i64 0, .int .i64 0, .int .i64 0, .int .i64 0, .int .i64 0, .int .i64 0, .int .i64 0, .int .i64 0, .int .i64 0, .int .i64 0, .int .i64 0, .int .i64 0, .int .i64 0, .int .i64 0, .int .i64 0, .int .i64 0]) (.agg #[.int .i64 0, .int .i64 0, .int .i64 0, .int .i64 0, .int .i64 0, .int .i64 0, .int .i64 0, .int .i64 0, .int .i64 0, .int .i64 0, .int .i64 0, .int .i64 0, .int .i64 0, .int .i64 0, .int .i64 0, .int .i64 0])).run Try.prog w = .ok true w := by kernel_rfl
theorem eqNought (w : World) : (Op.equalIn 9999 3 (.int .i64 0) (.int .i64 0)).run Try.prog w = .ok true w := by kernel_rfl

set_option maxHeartbeats 800000 in
theorem isNone_yes (w : World) :
    Calls Try.prog 43 #[.agg #[.int .i64 0, .int .i64 0, .int .i64 0, .int .i64 0, .int .i64 0, .int .i64 0, .int .i64 0, .int .i64 0, .int .i64 0, .int .i64 0, .int .i64 0, .int .i64 0, .int .i64 0, .int .i64 0, .int .i64 0, .int .i64 0, .int .i64 0, .int .i64 0, .int .i64 0, .int .i64 0, .int .i64 0]] w fun e w' => e = .returned (.bool true) ∧ w.grownBy w' none := by
  obtain ⟨X, hX⟩ : ∃ X, X = (#[.int .i64 0, .int .i64 0, .int .i64 0, .int .i64 0, .int .i64 0, .int .i64 0, .int .i64 0, .int .i64 0, .int .i64 0, .int .i64 0, .int .i64 0, .int .i64 0, .int .i64 0, .int .i64 0, .int .i64 0, .int .i64 0, .int .i64 0, .int .i64 0, .int .i64 0, .int .i64 0, .int .i64 0] : Array Value) := ⟨_, rfl⟩
  have hs : X.size = 21 := by rw [hX]; rfl
  have h0 : X[0] = .int .i64 0 := by subst hX; rfl
  have h1 : X[1] = .int .i64 0 := by subst hX; rfl
  have h2 : X[2] = .int .i64 0 := by subst hX; rfl
  have h3 : X[3] = .int .i64 0 := by subst hX; rfl
  have h4 : X[4] = .int .i64 0 := by subst hX; rfl
  have h5 : X.extract 5 21 = #[.int .i64 0, .int .i64 0, .int .i64 0, .int .i64 0, .int .i64 0, .int .i64 0, .int .i64 0, .int .i64 0, .int .i64 0, .int .i64 0, .int .i64 0, .int .i64 0, .int .i64 0, .int .i64 0, .int .i64 0, .int .i64 0] := by subst hX; rfl
  have e3 := eqNought
  have e48 := eqComps
  rw [← hX]
  clear hX
  go_enter Try.func43, Try.ntmps43
  go_wp2_with (refine wpList_load_row rfl 71 _ rfl w.heap.size rfl X 71 (heap_alloc_new _ _) _ Try.underlying71 rfl (by rw [hs]; kernel_rfl) ?_)
  go_ret
  exact ⟨rfl, grown_alloc (World.grownBy.refl _ _) _⟩

set_option maxHeartbeats 800000 in
theorem headOk (X : Array Value) (p wd ht rs n : Int) (C : Nat → Nat → Int) (hX : Fx X p wd ht rs n C) (t : Bool) (HT : Hid (headB p wd ht rs = t)) (w : World) :
    Calls Try.prog 79 #[.agg X] w fun e w' => e = .returned (.bool t) ∧ w.grownBy w' none := by
  have hs := hX.size
  have h0 := hX.c0
  have h1 := hX.c1
  have h2 := hX.c2
  have h3 := hX.c3
  have h0' : X[0] = .int .i64 p := by rw [Array.getElem?_eq_getElem (by omega)] at h0; simpa using h0
  have h1' : X[1] = .int .i64 wd := by rw [Array.getElem?_eq_getElem (by omega)] at h1; simpa using h1
  have h2' : X[2] = .int .i64 ht := by rw [Array.getElem?_eq_getElem (by omega)] at h2; simpa using h2
  have h3' : X[3] = .int .i64 rs := by rw [Array.getElem?_eq_getElem (by omega)] at h3; simpa using h3
  have hcase : (p = 8 ∨ p = 12) ∨ ((p != 8) = true ∧ (p != 12) = true ∧ (p == 8) = false ∧ (p == 12) = false) := by
    by_cases e8 : p = 8
    · exact .inl (.inl e8)
    · by_cases e12 : p = 12
      · exact .inl (.inr e12)
      · exact .inr (by simp [e8, e12])
  rcases hcase with hp | ⟨n8, n12, m8, m12⟩
  · obtain ⟨t1, HT1⟩ : ∃ t1, Hid (decide (1 ≤ wd ∧ wd ≤ 256) = t1) := ⟨_, rfl⟩
    obtain ⟨t2, HT2⟩ : ∃ t2, Hid (decide (1 ≤ ht ∧ ht ≤ 256) = t2) := ⟨_, rfl⟩
    obtain ⟨t4, HT4⟩ : ∃ t4, Hid (decide (0 ≤ rs ∧ rs ≤ 255) = t4) := ⟨_, rfl⟩
    have HP : Hid (t = (t1 && (t2 && (decide (wd * ht ≤ 16384) && t4)))) := by
      have e : (p == 8 || p == 12) = true := by rcases hp with rfl | rfl <;> rfl
      unfold Hid; rw [← unhide HT, headB, e, unhide HT1, unhide HT2, unhide HT4, Bool.true_and]
    clear HT
    cases t1
    · rcases hp with rfl | rfl
      all_goals
        go_enter Try.func79, Try.ntmps79
        go_wp2_with fail
        refine (inRange wd 1 256 _ HT1 _).mono ?_
        rintro e w1 ⟨rfl, rfl⟩
        go_wp2
        go_ret
        exact ⟨ret_bool (by rw [unhide HP]; rfl), grown_alloc (World.grownBy.refl _ _) _⟩
    · cases t2
      · rcases hp with rfl | rfl
        all_goals
          go_enter Try.func79, Try.ntmps79
          go_wp2_with fail
          refine (inRange wd 1 256 _ HT1 _).mono ?_
          rintro e w1 ⟨rfl, rfl⟩
          go_wp2_with fail
          refine (inRange ht 1 256 _ HT2 _).mono ?_
          rintro e w1 ⟨rfl, rfl⟩
          go_wp2
          go_ret
          exact ⟨ret_bool (by rw [unhide HP]; rfl), grown_alloc (World.grownBy.refl _ _) _⟩
      · have hb1 := of_decide_eq_true (unhide HT1)
        have hb2 := of_decide_eq_true (unhide HT2)
        have hm := mul_side hb1 hb2
        have hwr := i64_in (wd * ht) (by omega)
        clear hm hb1 hb2
        cases t3 : decide (wd * ht ≤ 16384)
        · rw [t3] at HP
          rcases hp with rfl | rfl
          all_goals
            go_enter Try.func79, Try.ntmps79
            go_wp2_with fail
            refine (inRange wd 1 256 _ HT1 _).mono ?_
            rintro e w1 ⟨rfl, rfl⟩
            go_wp2_with fail
            refine (inRange ht 1 256 _ HT2 _).mono ?_
            rintro e w1 ⟨rfl, rfl⟩
            go_wp2
            go_ret
            exact ⟨ret_bool (by rw [unhide HP]; rfl), grown_alloc (World.grownBy.refl _ _) _⟩
        · rw [t3] at HP
          rcases hp with rfl | rfl
          all_goals
            go_enter Try.func79, Try.ntmps79
            go_wp2_with fail
            refine (inRange wd 1 256 _ HT1 _).mono ?_
            rintro e w1 ⟨rfl, rfl⟩
            go_wp2_with fail
            refine (inRange ht 1 256 _ HT2 _).mono ?_
            rintro e w1 ⟨rfl, rfl⟩
            go_wp2_with fail
            refine (inRange rs 0 255 _ HT4 _).mono ?_
            rintro e w1 ⟨rfl, rfl⟩
            go_wp2
            go_ret
            exact ⟨ret_bool (by rw [unhide HP]; rfl), grown_alloc (World.grownBy.refl _ _) _⟩
  · have HP : Hid (t = false) := by unfold Hid; rw [← unhide HT, headB, m8, m12]; rfl
    clear HT m8 m12
    go_enter Try.func79, Try.ntmps79
    go_wp2
    go_ret
    exact ⟨ret_bool (by rw [unhide HP]), grown_alloc (World.grownBy.refl _ _) _⟩

set_option maxHeartbeats 800000 in
theorem compOk (c : Nat → Int) (t : Bool) (HT : Hid (compB c = t)) (w : World) :
    Calls Try.prog 89 #[.agg #[.int .i64 (c 0), .int .i64 (c 1), .int .i64 (c 2), .int .i64 (c 3)]] w fun e w' => e = .returned (.bool t) ∧ w.grownBy w' none := by
  obtain ⟨t1, HT1⟩ : ∃ t1, Hid (decide (0 ≤ c 0 ∧ c 0 ≤ 255) = t1) := ⟨_, rfl⟩
  obtain ⟨t2, HT2⟩ : ∃ t2, Hid (decide (1 ≤ c 1 ∧ c 1 ≤ 4) = t2) := ⟨_, rfl⟩
  obtain ⟨t3, HT3⟩ : ∃ t3, Hid (decide (1 ≤ c 2 ∧ c 2 ≤ 4) = t3) := ⟨_, rfl⟩
  obtain ⟨t4, HT4⟩ : ∃ t4, Hid (decide (0 ≤ c 3 ∧ c 3 ≤ 3) = t4) := ⟨_, rfl⟩
  have HP : Hid (t = (t1 && (t2 && (t3 && t4)))) := by unfold Hid; rw [← unhide HT, compB, unhide HT1, unhide HT2, unhide HT3, unhide HT4]
  clear HT
  generalize c 0 = c0 at *
  generalize c 1 = c1 at *
  generalize c 2 = c2 at *
  generalize c 3 = c3 at *
  cases t1
  · go_enter Try.func89, Try.ntmps89
    go_wp2_with fail
    refine (inRange c0 0 255 _ HT1 _).mono ?_
    rintro e w1 ⟨rfl, rfl⟩
    go_wp2
    go_ret
    exact ⟨ret_bool (by rw [unhide HP]; rfl), grown_alloc (World.grownBy.refl _ _) _⟩
  · cases t2
    · go_enter Try.func89, Try.ntmps89
      go_wp2_with fail
      refine (inRange c0 0 255 _ HT1 _).mono ?_
      rintro e w1 ⟨rfl, rfl⟩
      go_wp2_with fail
      refine (inRange c1 1 4 _ HT2 _).mono ?_
      rintro e w1 ⟨rfl, rfl⟩
      go_wp2
      go_ret
      exact ⟨ret_bool (by rw [unhide HP]; rfl), grown_alloc (World.grownBy.refl _ _) _⟩
    · cases t3
      · go_enter Try.func89, Try.ntmps89
        go_wp2_with fail
        refine (inRange c0 0 255 _ HT1 _).mono ?_
        rintro e w1 ⟨rfl, rfl⟩
        go_wp2_with fail
        refine (inRange c1 1 4 _ HT2 _).mono ?_
        rintro e w1 ⟨rfl, rfl⟩
        go_wp2_with fail
        refine (inRange c2 1 4 _ HT3 _).mono ?_
        rintro e w1 ⟨rfl, rfl⟩
        go_wp2
        go_ret
        exact ⟨ret_bool (by rw [unhide HP]; rfl), grown_alloc (World.grownBy.refl _ _) _⟩
      · go_enter Try.func89, Try.ntmps89
        go_wp2_with fail
        refine (inRange c0 0 255 _ HT1 _).mono ?_
        rintro e w1 ⟨rfl, rfl⟩
        go_wp2_with fail
        refine (inRange c1 1 4 _ HT2 _).mono ?_
        rintro e w1 ⟨rfl, rfl⟩
        go_wp2_with fail
        refine (inRange c2 1 4 _ HT3 _).mono ?_
        rintro e w1 ⟨rfl, rfl⟩
        go_wp2_with fail
        refine (inRange c3 0 3 _ HT4 _).mono ?_
        rintro e w1 ⟨rfl, rfl⟩
        go_wp2
        go_ret
        exact ⟨ret_bool (by rw [unhide HP]; rfl), grown_alloc (World.grownBy.refl _ _) _⟩

end Go.Proofs.Ytnjcmlmgjoaeeaa

namespace Go.Proofs.Ytnjcmlmgjoaeeaa
open Go.RowKit

/-- The cells of component i, where the frame lies. -/
theorem fx_cell {X : Array Value} {p wd ht rs n : Int} {C : Nat → Nat → Int} (hX : Fx X p wd ht rs n C) {w : World} {g : Nat} {t : TypeId} (hb : w.heap[g]? = some (.cells X t (0, 0))) (i j : Nat) (hi : i < 4) (hj : j < 4) :
    w.cell? ⟨g, 5 + i * 4 + j, none⟩ = some (.int .i64 (C i j)) := by rw [cell_of_row w g _ X t (0, 0) hb]; exact hX.comp i j hi hj

set_option maxHeartbeats 800000 in
theorem idAhead (X : Array Value) (p wd ht rs n : Int) (C : Nat → Nat → Int) (hX : Fx X p wd ht rs n C) (m : Nat) (hm : m < 4) (t : Bool) (HT : Hid (idIn C m m = t)) (w : World) :
    Calls Try.prog 90 #[.agg X, .int .i64 m] w fun e w' => e = .returned (.bool t) ∧ w.grownBy w' none := by
  have HX := hide hX
  have hs := hX.size
  have HB := hide (heap_alloc_new w (.cells X 71))
  have G0 : Hid (w.grownBy (w.alloc (.cells X 71)) none) := grown_alloc (World.grownBy.refl _ _) _
  have hgs : w.heap.size < (w.alloc (.cells X 71)).heap.size := by simp
  clear hX
  go_enter Try.func90, Try.ntmps90
  go_wp2
  generalize (w.alloc (.cells X 71)) = wx at *
  go_loopw [7] (fun i wr => ∃ k : Nat, k ≤ m ∧ i = .int .i64 k ∧ idIn C m k = false ∧ wx.grownBy wr none) (fun i _ => m - (intOf i).toNat)
  case atStart => exact ⟨0, Nat.zero_le _, rfl, rfl, World.grownBy.refl _ _⟩
  case round =>
    obtain ⟨k, hk, rfl, hid, hgk⟩ := hrel
    by_cases hlt : k < m
    · have hB := (hgk.block w.heap.size hgs (by simp)).trans (unhide HB)
      have hck := fx_cell (unhide HX) hB k 0 (by omega) (by omega)
      have hcm := fx_cell (unhide HX) hB m 0 (by omega) (by omega)
      rw [Nat.add_zero] at hck hcm
      have HST : Hid (idIn C m (k + 1) = (idIn C m k || (C k 0 == C m 0))) := rfl
      have HTR : Hid ((C k 0 == C m 0) = true → t = true) := fun h => by rw [← unhide HT]; exact idIn_true h m hlt
      have HID := hide hid
      clear hB hid
      generalize C k 0 = x at *
      generalize C m 0 = y at *
      cases hxy : (x == y) with
      | false =>
        have HXY := hide hxy
        go_wp2
        go_quiet (fail)
        go_wp2
        go_roundw
        case rel => exact ⟨k + 1, by omega, by go_num, by rw [unhide HST, unhide HID, unhide HXY]; rfl, grown_drewN hgk _⟩
        case measure => simp [intOf]; omega
      | true =>
        have HXY := hide hxy
        go_wp2
        go_quiet (fail)
        go_wp2
        go_ret
        exact ⟨ret_bool (by rw [unhide HTR (unhide HXY)]), grown_trans (unhide G0) (grown_drewN hgk _)⟩
    · have hkm : k = m := by omega
      subst hkm
      have HF : Hid (t = false) := by unfold Hid; rw [← unhide HT, hid]
      clear hid
      go_wp2
      go_ret
      exact ⟨ret_bool (by rw [unhide HF]), grown_trans (unhide G0) hgk⟩

set_option maxHeartbeats 1600000 in
theorem compsOk (X : Array Value) (p wd ht rs : Int) (n : Nat) (C : Nat → Nat → Int) (hX : Fx X p wd ht rs n C) (t : Bool) (HT : Hid (compsB n C = t)) (w : World) :
    Calls Try.prog 80 #[.agg X] w fun e w' => e = .returned (.bool t) ∧ w.grownBy w' none := by
  have HX := hide hX
  have hs := hX.size
  have h4 := hX.c4
  have h4' : X[4] = .int .i64 n := by rw [Array.getElem?_eq_getElem (by omega)] at h4; simpa using h4
  have HB := hide (heap_alloc_new w (.cells X 71))
  have G0 : Hid (w.grownBy (w.alloc (.cells X 71)) none) := grown_alloc (World.grownBy.refl _ _) _
  have hgs : w.heap.size < (w.alloc (.cells X 71)).heap.size := by simp
  clear hX
  by_cases hn : 1 ≤ (n : Int) ∧ (n : Int) ≤ 4
  · have HN : Hid (decide (1 ≤ (n : Int) ∧ (n : Int) ≤ 4) = true) := decide_eq_true hn
    have HR : Hid (t = (okTo C n && decide (sumHV C n ≤ 10))) := by unfold Hid; rw [← unhide HT, compsB, unhide HN, Bool.true_and]
    clear HT
    have hn4 : n ≤ 4 := by omega
    go_enter Try.func80, Try.ntmps80
    go_wp2_with fail
    refine (inRange n 1 4 _ HN _).mono ?_
    rintro e w1 ⟨rfl, rfl⟩
    go_wp2
    generalize (w.alloc (.cells X 71)) = wx at *
    go_loopw [3, 12] (fun b i wr => ∃ k : Nat, k ≤ n ∧ i = .int .i64 k ∧ b = .int .i64 (sumHV C k) ∧ okTo C k = true ∧ wx.grownBy wr none) (fun _ i _ => n - (intOf i).toNat)
    case atStart => exact ⟨0, Nat.zero_le _, rfl, rfl, rfl, World.grownBy.refl _ _⟩
    case round =>
      obtain ⟨k, hk, rfl, rfl, hok, hgk⟩ := hrel
      by_cases hlt : k < n
      · have hB := (hgk.block w.heap.size hgs (by simp)).trans (unhide HB)
        have h0 := fx_cell (unhide HX) hB k 0 (by omega) (by omega)
        have h1 := fx_cell (unhide HX) hB k 1 (by omega) (by omega)
        have h2 := fx_cell (unhide HX) hB k 2 (by omega) (by omega)
        have h3 := fx_cell (unhide HX) hB k 3 (by omega) (by omega)
        rw [Nat.add_zero] at h0
        have HBK := hide hB
        have HOK := hide hok
        have HSB := hide (sumHV_bounds k hok)
        have HS1 : Hid (okTo C (k + 1) = (okTo C k && (compB (C k) && !idIn C k k))) := rfl
        have HS2 : Hid (sumHV C (k + 1) = sumHV C k + C k 1 * C k 2) := rfl
        have STOP : Hid ((compB (C k) && !idIn C k k) = false → t = false) := fun h => by rw [unhide HR, okTo_false (k := k + 1) (by rw [unhide HS1, h, Bool.and_false]) n hlt]; rfl
        have hsz := hgk.size
        obtain ⟨t1, HT1⟩ : ∃ t1, Hid (compB (C k) = t1) := ⟨_, rfl⟩
        obtain ⟨t2, HT2⟩ : ∃ t2, Hid (idIn C k k = t2) := ⟨_, rfl⟩
        rw [unhide HT1, unhide HT2] at STOP HS1
        have HCK := hide (heap_alloc_new wr (.cells #[.int .i64 (C k 0), .int .i64 (C k 1), .int .i64 (C k 2), .int .i64 (C k 3)] 68))
        have GK : Hid (wr.grownBy (wr.alloc (.cells #[.int .i64 (C k 0), .int .i64 (C k 1), .int .i64 (C k 2), .int .i64 (C k 3)] 68)) none) := grown_alloc (World.grownBy.refl _ _) _
        have hgz : wr.heap.size < (wr.alloc (.cells #[.int .i64 (C k 0), .int .i64 (C k 1), .int .i64 (C k 2), .int .i64 (C k 3)] 68)).heap.size := by simp
        clear hB hok
        go_wp2_with fail
        refine (compOk (C k) t1 HT1 _).mono ?_
        generalize (wr.alloc (.cells #[.int .i64 (C k 0), .int .i64 (C k 1), .int .i64 (C k 2), .int .i64 (C k 3)] 68)) = wy at *
        rintro e w2 ⟨rfl, g2⟩
        have G2 := grown_trans hgk (grown_trans (unhide GK) g2)
        cases t1
        · go_wp2
          go_ret
          exact ⟨ret_bool (by rw [unhide STOP rfl]), grown_trans (unhide G0) G2⟩
        · have hB2 := (G2.block w.heap.size hgs (by simp)).trans (unhide HB)
          go_wp2_with (refine wpList_load_row rfl 71 _ rfl w.heap.size rfl X 71 hB2 _ Try.underlying71 rfl (by rw [hs]; kernel_rfl) ?_)
          refine (idAhead X p wd ht rs n C (unhide HX) k (by omega) t2 HT2 _).mono ?_
          rintro e w3 ⟨rfl, g3⟩
          have G3 := grown_trans G2 g3
          cases t2
          · have hbk := (grown_trans g2 g3).block wr.heap.size hgz (by simp)
            have hbk' := hbk.trans (unhide HCK)
            have c1 : w3.cell? ⟨wr.heap.size, 1, none⟩ = some (.int .i64 (C k 1)) := by rw [cell_of_row w3 _ 1 _ _ (0, 0) hbk']; rfl
            have c2 : w3.cell? ⟨wr.heap.size, 2, none⟩ = some (.int .i64 (C k 2)) := by rw [cell_of_row w3 _ 2 _ _ (0, 0) hbk']; rfl
            obtain ⟨_, hb1, hb2, _⟩ := compB_bounds (unhide HT1)
            have hmul := mul_small hb1 hb2
            have hsb := unhide HSB
            clear hbk hbk' hb1 hb2 hB2 h0 h1 h2 h3
            generalize C k 1 = x at *
            generalize C k 2 = y at *
            have hw1 := i64_in (x * y) (by omega)
            have hw2 := i64_in (sumHV C k + x * y) (by omega)
            generalize hxy : x * y = z at *
            have HXY := hide hxy
            clear hxy
            generalize sumHV C k = sm at *
            go_wp2
            go_roundw
            case rel => exact ⟨k + 1, by omega, by go_num, by rw [unhide HXY, IntWalk.wrap64_in z (by omega), IntWalk.wrap64_in (sm + z) (by omega), unhide HS2], by rw [unhide HS1, unhide HOK]; rfl, G3⟩
            case measure => simp [intOf]; omega
          · go_wp2
            go_ret
            exact ⟨ret_bool (by rw [unhide STOP rfl]), grown_trans (unhide G0) G3⟩
      · have hkn : k = n := by omega
        subst hkn
        have HF : Hid (t = decide (sumHV C k ≤ 10)) := by unfold Hid; rw [unhide HR, hok, Bool.true_and]
        have hsb := sumHV_bounds k hok
        clear hok
        go_wp2
        go_ret
        exact ⟨ret_bool (by rw [unhide HF]), grown_trans (unhide G0) hgk⟩
  · have HN : Hid (decide (1 ≤ (n : Int) ∧ (n : Int) ≤ 4) = false) := decide_eq_false hn
    have HF : Hid (t = false) := by unfold Hid; rw [← unhide HT, compsB, unhide HN, Bool.false_and]
    clear HT hn
    go_enter Try.func80, Try.ntmps80
    go_wp2_with fail
    refine (inRange n 1 4 _ HN _).mono ?_
    rintro e w1 ⟨rfl, rfl⟩
    go_wp2
    go_ret
    exact ⟨ret_bool (by rw [unhide HF]), unhide G0⟩

end Go.Proofs.Ytnjcmlmgjoaeeaa

namespace Go.Proofs.Ytnjcmlmgjoaeeaa
open Go.RowKit

theorem grown_setRow (w : World) (g : Nat) (X : Array Value) : w.grownBy (w.setRow g X) (some g) :=
  ⟨rfl, rfl, rfl, by simp [World.setRow], fun k _ hk => setRow_other w g k X (fun e => hk (by simp [e]))⟩

theorem wpList_store_row {P : Program} {ops : Array Oper} {rest : List Oper} {op : Oper} {a : Act} {w : World} {Q : Exit → Act → World → Prop} (hw : Region.wanted op (yielded ops a.tmps) = true) (ty : TypeId) (x y : Operand) (ho : op.op = .store ty x y)
    (b : Nat) (hx : a.eval x = .pointer (some ⟨b, 0, none⟩)) (X : Array Value) (hy : a.eval y = .agg X) (Y : Array Value) (t : TypeId) (hb : w.heap[b]? = some (.cells Y t (0, 0))) (hYX : Y.size = X.size)
    (hi : (P.info? ty).map (·.size) = some X.size) (h1 : X.all (·.oneCell') = true)
    (h : ∀ w', w'.heap[b]? = some (.cells X t (0, 0)) → w.grownBy w' (some b) → wpList P ops Q rest (a.put op.dst undef) w') : wpList P ops Q (op :: rest) a w :=
  BigFrame.wpList_want hw fun K hK => by
    unfold Oper.wp execOp
    simp only [ho, hx, hy, Instr.storeAt, Instr.sureAddr, Sem.run_bind, Sem.run_pure, Result.andThen_ok, run_storeVar_row w b t ty Y X hb hi hYX h1]
    exact hK _ _ (h _ (setRow_heap w b Y X t _ hb) (grown_setRow w b X))

/-- Copying elements of so many cells each. -/
theorem run_copyK {P : Program} (w : World) (dT sT ty elem : TypeId) (sz : Nat) (g off dLen dCap : Nat) (sp : Option Addr) (sLen sCap : Nat) (cur : Array Value) (t : TypeId) (cs : List Value)
    (hu : P.underlying dT = some (.slice elem)) (hs : (P.info? elem).map (·.size) = some sz) (hg : w.heap[g]? = some (.cells cur t (0, 0))) (hn : cs.length = Nat.min sLen dLen * sz)
    (hpos : 0 < cs.length → ∃ ad, sp = some ad ∧ ∀ j v, cs[j]? = some v → w.cell? (ad.add j) = some v) (hfit : off + cs.length ≤ cur.size) (h1 : ∀ v ∈ cs, v.oneCell' = true) :
    (Builtin.copy_ #[dT, sT] ty #[.slice (some ⟨g, off, none⟩) dLen dCap, .slice sp sLen sCap]).run P w = .ok (goInt (Nat.min sLen dLen)) (w.setRow g (cur.toList.take off ++ cs ++ cur.toList.drop (off + cs.length)).toArray) := by
  have hst := run_storeCells_at P g off t cs 0 cur w hg (by simpa using hfit) h1
  cases hq : P.info? elem with
  | none => simp [hq] at hs
  | some i =>
    have hi : i.size = sz := by simpa [hq] using hs
    by_cases h0 : cs.length = 0
    · obtain rfl : cs = [] := List.eq_nil_of_length_eq_zero h0
      have hz : Nat.min sLen dLen * sz = 0 := by simpa using hn.symm
      have hl : ∀ (x : Addr), (loadCells x 0).run P w = .ok #[] w := fun x => by simpa using run_loadCells_list (P := P) w x [] (by simp)
      have hst' : (storeCells ⟨g, off, none⟩ [] 0).run P w = .ok () (w.setRow g cur) := by simpa using hst
      cases sp <;> simp [Builtin.copy_, run_underlying hu, Builtin.lenOf, Builtin.firstCells, sizeOf, typeInfo, hq, hi, hz, hl, hst']
    · obtain ⟨ad, rfl, hsrc⟩ := hpos (by omega)
      have hl := run_loadCells_list (P := P) w ad cs hsrc
      simp [Builtin.copy_, run_underlying hu, Builtin.lenOf, Builtin.firstCells, sizeOf, typeInfo, hq, hi, ← hn, hl, hst]

theorem step_copyK {P : Program} {ops : Array Oper} {o : Oper} {a : Act} {w : World} {K : Act → World → Prop} {Q : Exit → Act → World → Prop} {E : Prop} (hgd : o.guard = none) (d s : Operand) (dT sT : TypeId)
    (ho : o.op = .call { callee := .builtin .copy, args := #[d, s], argTypes := #[dT, sT] }) (elem : TypeId) (hu : P.underlying dT = some (.slice elem)) (sz : Nat) (hsz : (P.info? elem).map (·.size) = some sz)
    (g off dLen dCap : Nat) (sp : Option Addr) (sLen sCap : Nat) (hd : a.eval d = .slice (some ⟨g, off, none⟩) dLen dCap) (hs : a.eval s = .slice sp sLen sCap)
    (cur : Array Value) (t : TypeId) (hg : w.heap[g]? = some (.cells cur t (0, 0))) (cs : List Value) (hn : cs.length = Nat.min sLen dLen * sz)
    (hpos : 0 < cs.length → ∃ ad, sp = some ad ∧ ∀ j v, cs[j]? = some v → w.cell? (ad.add j) = some v) (hfit : off + cs.length ≤ cur.size) (h1 : ∀ v ∈ cs, v.oneCell' = true)
    (h : ∀ w', Hid (w'.heap[g]? = some (.cells (cur.toList.take off ++ cs ++ cur.toList.drop (off + cs.length)).toArray t (0, 0))) → w.grownBy w' (some g) → K (a.put o.dst (goInt (Nat.min sLen dLen))) w') :
    if Region.wanted o (yielded ops a.tmps) = true then Oper.wp P o a w K Q else E := by
  have hw : Region.wanted o (yielded ops a.tmps) = true := by simp [Region.wanted, hgd]
  rw [if_pos hw]
  have hrun := run_copyK (P := P) w dT sT o.type elem sz g off dLen dCap sp sLen sCap cur t cs hu hsz hg hn hpos hfit h1
  unfold Oper.wp
  simp only [execOp, ho, resolve, invoke, builtin, Sem.run_bind, Sem.run_pure, Result.andThen_ok, List.map_toArray, List.map_cons, List.map_nil, hd, hs, hrun]
  exact h _ (setRow_heap w g _ _ t _ hg) (grown_setRow w g _)

theorem Fx.one {X : Array Value} {p wd ht rs n : Int} {C : Nat → Nat → Int} (hX : Fx X p wd ht rs n C) : X.all (·.oneCell') = true := by
  rw [Array.all_eq_true]
  intro i hi
  have hs := hX.size
  have key : ∀ v, X[i]? = some v → v.oneCell' = true → (X[i]).oneCell' = true := by
    intro v hv h
    rw [Array.getElem?_eq_getElem hi] at hv
    simp at hv
    rw [hv]; exact h
  by_cases h5 : i < 5
  · have : i = 0 ∨ i = 1 ∨ i = 2 ∨ i = 3 ∨ i = 4 := by omega
    rcases this with rfl | rfl | rfl | rfl | rfl
    · exact key _ hX.c0 rfl
    · exact key _ hX.c1 rfl
    · exact key _ hX.c2 rfl
    · exact key _ hX.c3 rfl
    · exact key _ hX.c4 rfl
  · have e : i = 5 + (i - 5) / 4 * 4 + (i - 5) % 4 := by omega
    have hc := hX.comp ((i - 5) / 4) ((i - 5) % 4) (by omega) (by omega)
    rw [← e] at hc
    exact key _ hc rfl

theorem loadFx {w : World} {g : Nat} {X : Array Value} (hs : X.size = 21) (hb : w.heap[g]? = some (.cells X 71 (0, 0))) : (loadVar 71 ⟨g, 0, none⟩).run Try.prog w = .ok (.agg X) w :=
  run_loadVar_row w g 71 71 X (0, 0) _ hb Try.underlying71 rfl (by rw [hs]; kernel_rfl)

theorem results_cell1 {fn : Func} {p : Tmp} {ty : TypeId} (h : fn.results = #[.cell p ty]) (tmps : Array Value) (P : Program) (w : World) :
    (results fn tmps).run P w = ((asAddr (tmps.getD p undef)).run P w).andThen fun a w₁ => (loadVar ty a).run P w₁ := by
  simp only [results, h]
  simp [Sem.run_bind, Result.andThen]

set_option maxRecDepth 100000 in
set_option maxHeartbeats 1600000 in
theorem orNone (X : Array Value) (p wd ht rs : Int) (n : Nat) (C : Nat → Nat → Int) (hX : Fx X p wd ht rs n C) (R : Array Value) (HR : Hid ((if frameB p wd ht rs n C = true then X else #[.int .i64 0, .int .i64 0, .int .i64 0, .int .i64 0, .int .i64 0, .int .i64 0, .int .i64 0, .int .i64 0, .int .i64 0, .int .i64 0, .int .i64 0, .int .i64 0, .int .i64 0, .int .i64 0, .int .i64 0, .int .i64 0, .int .i64 0, .int .i64 0, .int .i64 0, .int .i64 0, .int .i64 0]) = R)) (w : World) :
    Calls Try.prog 68 #[.agg X] w fun e w' => e = .returned (.agg R) ∧ w.grownBy w' none := by
  have HX := hide hX
  have hs := hX.size
  obtain ⟨t1, HT1⟩ : ∃ t1, Hid (headB p wd ht rs = t1) := ⟨_, rfl⟩
  obtain ⟨t2, HT2⟩ : ∃ t2, Hid (compsB n C = t2) := ⟨_, rfl⟩
  have HH : Hid (frameB p wd ht rs n C = (t1 && t2)) := by unfold Hid; rw [frameB, unhide HT1, unhide HT2]
  obtain ⟨Z, hZ⟩ : ∃ Z, (#[.int .i64 0, .int .i64 0, .int .i64 0, .int .i64 0, .int .i64 0, .int .i64 0, .int .i64 0, .int .i64 0, .int .i64 0, .int .i64 0, .int .i64 0, .int .i64 0, .int .i64 0, .int .i64 0, .int .i64 0, .int .i64 0, .int .i64 0, .int .i64 0, .int .i64 0, .int .i64 0, .int .i64 0] : Array Value) = Z := ⟨_, rfl⟩
  have hsz : Z.size = 21 := by rw [← hZ]; rfl
  have HZ1 : Hid (Z.all (·.oneCell') = true) := by unfold Hid; rw [← hZ]; decide +kernel
  have HZ := hide hZ
  rw [hZ] at HR
  have hB0 : ((w.alloc (.cells X 71)).alloc (.cells #[.int .i64 0, .int .i64 0, .int .i64 0, .int .i64 0, .int .i64 0, .int .i64 0, .int .i64 0, .int .i64 0, .int .i64 0, .int .i64 0, .int .i64 0, .int .i64 0, .int .i64 0, .int .i64 0, .int .i64 0, .int .i64 0, .int .i64 0, .int .i64 0, .int .i64 0, .int .i64 0, .int .i64 0] 71)).heap[w.heap.size]? = some (.cells X 71 (0, 0)) := by rw [Below.heap_alloc _ _ _ (by simp)]; exact heap_alloc_new _ _
  have hB1 : ((w.alloc (.cells X 71)).alloc (.cells #[.int .i64 0, .int .i64 0, .int .i64 0, .int .i64 0, .int .i64 0, .int .i64 0, .int .i64 0, .int .i64 0, .int .i64 0, .int .i64 0, .int .i64 0, .int .i64 0, .int .i64 0, .int .i64 0, .int .i64 0, .int .i64 0, .int .i64 0, .int .i64 0, .int .i64 0, .int .i64 0, .int .i64 0] 71)).heap[w.heap.size + 1]? = some (.cells #[.int .i64 0, .int .i64 0, .int .i64 0, .int .i64 0, .int .i64 0, .int .i64 0, .int .i64 0, .int .i64 0, .int .i64 0, .int .i64 0, .int .i64 0, .int .i64 0, .int .i64 0, .int .i64 0, .int .i64 0, .int .i64 0, .int .i64 0, .int .i64 0, .int .i64 0, .int .i64 0, .int .i64 0] 71 (0, 0)) := by have := heap_alloc_new (w.alloc (.cells X 71)) (.cells #[.int .i64 0, .int .i64 0, .int .i64 0, .int .i64 0, .int .i64 0, .int .i64 0, .int .i64 0, .int .i64 0, .int .i64 0, .int .i64 0, .int .i64 0, .int .i64 0, .int .i64 0, .int .i64 0, .int .i64 0, .int .i64 0, .int .i64 0, .int .i64 0, .int .i64 0, .int .i64 0, .int .i64 0] 71); simpa using this
  have hgs : ((w.alloc (.cells X 71)).alloc (.cells #[.int .i64 0, .int .i64 0, .int .i64 0, .int .i64 0, .int .i64 0, .int .i64 0, .int .i64 0, .int .i64 0, .int .i64 0, .int .i64 0, .int .i64 0, .int .i64 0, .int .i64 0, .int .i64 0, .int .i64 0, .int .i64 0, .int .i64 0, .int .i64 0, .int .i64 0, .int .i64 0, .int .i64 0] 71)).heap.size = w.heap.size + 2 := by simp
  have G0 : w.grownBy ((w.alloc (.cells X 71)).alloc (.cells #[.int .i64 0, .int .i64 0, .int .i64 0, .int .i64 0, .int .i64 0, .int .i64 0, .int .i64 0, .int .i64 0, .int .i64 0, .int .i64 0, .int .i64 0, .int .i64 0, .int .i64 0, .int .i64 0, .int .i64 0, .int .i64 0, .int .i64 0, .int .i64 0, .int .i64 0, .int .i64 0, .int .i64 0] 71)) none := grown_alloc (grown_alloc (World.grownBy.refl _ _) _) _
  clear hX hZ
  have HB0 := hide hB0
  have HB1 := hide hB1
  have HGS := hide hgs
  clear hB0 hB1 hgs
  go_enter Try.func68, Try.ntmps68
  go_wp2_with (refine wpList_load_row rfl 71 _ rfl w.heap.size rfl X 71 (unhide HB0) _ Try.underlying71 rfl (by rw [hs]; kernel_rfl) ?_)
  generalize ((w.alloc (.cells X 71)).alloc (.cells #[.int .i64 0, .int .i64 0, .int .i64 0, .int .i64 0, .int .i64 0, .int .i64 0, .int .i64 0, .int .i64 0, .int .i64 0, .int .i64 0, .int .i64 0, .int .i64 0, .int .i64 0, .int .i64 0, .int .i64 0, .int .i64 0, .int .i64 0, .int .i64 0, .int .i64 0, .int .i64 0, .int .i64 0] 71)) = wx at *
  refine (headOk X p wd ht rs n C (unhide HX) t1 HT1 _).mono ?_
  rintro e w2 ⟨rfl, g2⟩
  have hB0 := (g2.block w.heap.size (by have := unhide HGS; omega) (by simp)).trans (unhide HB0)
  have hB1 := (g2.block (w.heap.size + 1) (by have := unhide HGS; omega) (by simp)).trans (unhide HB1)
  rw [unhide HZ] at hB1
  have G2 := grown_trans G0 g2
  cases t1
  · have HE : Hid (R = Z) := by unfold Hid; rw [← unhide HR, unhide HH]; rfl
    go_wp2_with (refine wpList_store_row rfl 71 _ _ rfl (w.heap.size + 1) rfl Z (congrArg _ (unhide HZ)) Z 71 hB1 rfl (by rw [hsz]; kernel_rfl) (unhide HZ1) ?_; intro w3 hB3 g3)
    refine bodyPost_ret (v := .agg Z) ?_ rfl ⟨by rw [unhide HE], ?_⟩
    · rw [results_cell1 rfl]
      exact loadFx hsz hB3
    · exact grown_new G2 g3 (fun g e => by simp at e; omega)
  · go_wp2_with (refine wpList_load_row rfl 71 _ rfl w.heap.size rfl X 71 hB0 _ Try.underlying71 rfl (by rw [hs]; kernel_rfl) ?_)
    refine (compsOk X p wd ht rs n C (unhide HX) t2 HT2 _).mono ?_
    rintro e w4 ⟨rfl, g4⟩
    have hB0' := (g4.block w.heap.size (by have := unhide HGS; have := g2.size; omega) (by simp)).trans hB0
    have hB1' := (g4.block (w.heap.size + 1) (by have := unhide HGS; have := g2.size; omega) (by simp)).trans hB1
    have G4 := grown_trans G2 g4
    clear hB0 hB1
    cases t2
    · have HE : Hid (R = Z) := by unfold Hid; rw [← unhide HR, unhide HH]; rfl
      go_wp2_with (refine wpList_store_row rfl 71 _ _ rfl (w.heap.size + 1) rfl Z (congrArg _ (unhide HZ)) Z 71 hB1' rfl (by rw [hsz]; kernel_rfl) (unhide HZ1) ?_; intro w3 hB3 g3)
      refine bodyPost_ret (v := .agg Z) ?_ rfl ⟨by rw [unhide HE], ?_⟩
      · rw [results_cell1 rfl]
        exact loadFx hsz hB3
      · exact grown_new G4 g3 (fun g e => by simp at e; omega)
    · have HE : Hid (R = X) := by unfold Hid; rw [← unhide HR, unhide HH]; rfl
      go_wp2_with (first | (refine wpList_load_row rfl 71 _ rfl w.heap.size rfl X 71 hB0' _ Try.underlying71 rfl (by rw [hs]; kernel_rfl) ?_) | (refine wpList_store_row rfl 71 _ _ rfl (w.heap.size + 1) rfl X rfl Z 71 hB1' (by rw [hs, hsz]) (by rw [hs]; kernel_rfl) (unhide HX).one ?_; intro w3 hB3 g3))
      refine bodyPost_ret (v := .agg X) ?_ rfl ⟨by rw [unhide HE], ?_⟩
      · rw [results_cell1 rfl]
        exact loadFx hs hB3
      · exact grown_new G4 g3 (fun g e => by simp at e; omega)

/-- What is read through a slice of components: four numbers each. -/
def RdC (w : World) (ao : Option Addr) (n : Nat) (C : Nat → Nat → Int) : Prop :=
  ∀ i, i < n → ∃ b off, ao = some ⟨b, off, none⟩ ∧ ∀ j, j < 4 → w.cell? ⟨b, off + i * 4 + j, none⟩ = some (.int .i64 (C i j))
theorem RdC.grown {w w' : World} {ao : Option Addr} {n : Nat} {C : Nat → Nat → Int} (h : RdC w ao n C) (hg : w.grownBy w' none) : RdC w' ao n C :=
  fun i hi => by obtain ⟨b, off, e, hc⟩ := h i hi; exact ⟨b, off, e, fun j hj => hg.cell (hc j hj) (by simp)⟩

def compCells (C : Nat → Nat → Int) : Nat → Nat → Value := fun i j => .int .i64 (C i j)

theorem rdC_src {w : World} {ao : Option Addr} {n m : Nat} {C : Nat → Nat → Int} (h : RdC w ao n C) (hm : m ≤ n) : 0 < (rowsK m 4 (compCells C)).length → ∃ ad, ao = some ad ∧ ∀ j v, (rowsK m 4 (compCells C))[j]? = some v → w.cell? (ad.add j) = some v := by
  intro hp
  rw [rowsK_len] at hp
  obtain ⟨b, off, rfl, _⟩ := h 0 (by omega)
  refine ⟨_, rfl, fun j v hv => ?_⟩
  have hj : j < m * 4 := by have := (List.getElem?_eq_some_iff.1 hv).1; rwa [rowsK_len] at this
  obtain ⟨b', off', e, hc⟩ := h (j / 4) (by omega)
  simp only [Option.some.injEq, Addr.mk.injEq] at e
  obtain ⟨rfl, rfl, _⟩ := e
  have hd : j = j / 4 * 4 + j % 4 := by omega
  have hg := rowsK_get m 4 (compCells C) (j / 4) (j % 4) (by omega) (by omega)
  rw [← hd] at hg
  rw [hg] at hv
  simp at hv
  subst hv
  rw [Addr.add_lit]
  have := hc (j % 4) (by omega)
  rw [Nat.add_assoc, ← hd] at this
  exact this

theorem rowsK_one {m k : Nat} {f : Nat → Nat → Value} (h : ∀ i j, (f i j).oneCell' = true) : ∀ v ∈ rowsK m k f, v.oneCell' = true := by
  intro v hv
  obtain ⟨c, _, rfl⟩ := List.mem_map.1 hv
  exact h _ _

/-- The frame's cells behind the copy. -/
theorem fx_copied {cur : Array Value} {p wd ht rs n : Int} {D : Nat → Nat → Int} (h : Fx cur p wd ht rs n D) (m : Nat) (C : Nat → Nat → Int) (hm : m ≤ 4) :
    Fx (cur.toList.take 5 ++ rowsK m 4 (compCells C) ++ cur.toList.drop (5 + (rowsK m 4 (compCells C)).length)).toArray p wd ht rs n (fun i j => if i < m then C i j else D i j) := by
  have hs := h.size
  have hl : (cur.toList.take 5).length = 5 := by simp; omega
  have low : ∀ k, k < 5 → (cur.toList.take 5 ++ rowsK m 4 (compCells C) ++ cur.toList.drop (5 + (rowsK m 4 (compCells C)).length)).toArray[k]? = cur[k]? := by
    intro k hk
    rw [List.getElem?_toArray, List.append_assoc, List.getElem?_append_left (by omega), List.getElem?_take, if_pos hk]
    simp
  refine ⟨by simp [rowsK_len]; omega, (low 0 (by omega)).trans h.c0, (low 1 (by omega)).trans h.c1, (low 2 (by omega)).trans h.c2, (low 3 (by omega)).trans h.c3, (low 4 (by omega)).trans h.c4, fun i j hi hj => ?_⟩
  rw [List.getElem?_toArray]
  by_cases him : i < m
  · rw [List.getElem?_append_left (by rw [List.length_append, hl, rowsK_len]; omega), List.getElem?_append_right (by omega), hl, show 5 + i * 4 + j - 5 = i * 4 + j by omega, rowsK_get m 4 _ i j him hj, if_pos him]
    rfl
  · rw [List.getElem?_append_right (by rw [List.length_append, hl, rowsK_len]; omega), List.length_append, hl, rowsK_len, List.getElem?_drop, if_neg him, show 5 + m * 4 + (5 + i * 4 + j - (5 + m * 4)) = 5 + i * 4 + j by omega]
    have := h.comp i j hi hj
    simpa using this

set_option maxRecDepth 100000 in
set_option maxHeartbeats 1600000 in
theorem fixFrame (p wd ht rs : Int) (ao : Option Addr) (n cap : Nat) (C : Nat → Nat → Int) (w : World) (hr : RdC w ao n C) (hn : n ≤ 4194304) (b : Bool) (HFB : Hid (frameB p wd ht rs n C = b)) :
    Calls Try.prog 42 #[.agg #[.int .i64 p, .int .i64 wd, .int .i64 ht, .int .i64 rs, .slice ao n cap]] w fun e w' => ∃ X, e = .returned (.agg X) ∧ (b = false → X = #[.int .i64 0, .int .i64 0, .int .i64 0, .int .i64 0, .int .i64 0, .int .i64 0, .int .i64 0, .int .i64 0, .int .i64 0, .int .i64 0, .int .i64 0, .int .i64 0, .int .i64 0, .int .i64 0, .int .i64 0, .int .i64 0, .int .i64 0, .int .i64 0, .int .i64 0, .int .i64 0, .int .i64 0]) ∧ (b = true → ∃ D, Fx X p wd ht rs n D ∧ ∀ i, i < n → D i = C i) ∧ w.grownBy w' none := by
  have HR := hide hr
  clear hr
  obtain ⟨X0, hX0⟩ : ∃ X0 : Array Value, #[.int .i64 p, .int .i64 wd, .int .i64 ht, .int .i64 rs, .int .i64 n, .int .i64 0, .int .i64 0, .int .i64 0, .int .i64 0, .int .i64 0, .int .i64 0, .int .i64 0, .int .i64 0, .int .i64 0, .int .i64 0, .int .i64 0, .int .i64 0, .int .i64 0, .int .i64 0, .int .i64 0, .int .i64 0] = X0 := ⟨_, rfl⟩
  have HF0 : Hid (Fx X0 p wd ht rs n (fun _ _ => 0)) := by
    rw [← hX0]
    refine ⟨rfl, rfl, rfl, rfl, rfl, rfl, fun i j hi hj => ?_⟩
    have h1 : i = 0 ∨ i = 1 ∨ i = 2 ∨ i = 3 := by omega
    have h2 : j = 0 ∨ j = 1 ∨ j = 2 ∨ j = 3 := by omega
    rcases h1 with rfl | rfl | rfl | rfl <;> rcases h2 with rfl | rfl | rfl | rfl <;> rfl
  have HX0 := hide hX0
  have HI0 : Hid ((Try.prog.info? 71).map (·.size) = some X0.size) := by unfold Hid; rw [(unhide HF0).size]; kernel_rfl
  have HB2 : Hid ((((w.alloc (.cells #[.int .i64 p, .int .i64 wd, .int .i64 ht, .int .i64 rs, .slice ao n cap] 26)).alloc (.cells #[.int .i64 0, .int .i64 0, .int .i64 0, .int .i64 0, .int .i64 0, .int .i64 0, .int .i64 0, .int .i64 0, .int .i64 0, .int .i64 0, .int .i64 0, .int .i64 0, .int .i64 0, .int .i64 0, .int .i64 0, .int .i64 0, .int .i64 0, .int .i64 0, .int .i64 0, .int .i64 0, .int .i64 0] 71)).alloc (.cells #[.int .i64 0, .int .i64 0, .int .i64 0, .int .i64 0, .int .i64 0, .int .i64 0, .int .i64 0, .int .i64 0, .int .i64 0, .int .i64 0, .int .i64 0, .int .i64 0, .int .i64 0, .int .i64 0, .int .i64 0, .int .i64 0, .int .i64 0, .int .i64 0, .int .i64 0, .int .i64 0, .int .i64 0] 71)).heap[w.heap.size + 1 + 1]? = some (.cells #[.int .i64 0, .int .i64 0, .int .i64 0, .int .i64 0, .int .i64 0, .int .i64 0, .int .i64 0, .int .i64 0, .int .i64 0, .int .i64 0, .int .i64 0, .int .i64 0, .int .i64 0, .int .i64 0, .int .i64 0, .int .i64 0, .int .i64 0, .int .i64 0, .int .i64 0, .int .i64 0, .int .i64 0] 71 (0, 0))) := by
    have := heap_alloc_new ((w.alloc (.cells #[.int .i64 p, .int .i64 wd, .int .i64 ht, .int .i64 rs, .slice ao n cap] 26)).alloc (.cells #[.int .i64 0, .int .i64 0, .int .i64 0, .int .i64 0, .int .i64 0, .int .i64 0, .int .i64 0, .int .i64 0, .int .i64 0, .int .i64 0, .int .i64 0, .int .i64 0, .int .i64 0, .int .i64 0, .int .i64 0, .int .i64 0, .int .i64 0, .int .i64 0, .int .i64 0, .int .i64 0, .int .i64 0] 71)) (.cells #[.int .i64 0, .int .i64 0, .int .i64 0, .int .i64 0, .int .i64 0, .int .i64 0, .int .i64 0, .int .i64 0, .int .i64 0, .int .i64 0, .int .i64 0, .int .i64 0, .int .i64 0, .int .i64 0, .int .i64 0, .int .i64 0, .int .i64 0, .int .i64 0, .int .i64 0, .int .i64 0, .int .i64 0] 71)
    unfold Hid
    simpa using this
  have HB1 : Hid ((((w.alloc (.cells #[.int .i64 p, .int .i64 wd, .int .i64 ht, .int .i64 rs, .slice ao n cap] 26)).alloc (.cells #[.int .i64 0, .int .i64 0, .int .i64 0, .int .i64 0, .int .i64 0, .int .i64 0, .int .i64 0, .int .i64 0, .int .i64 0, .int .i64 0, .int .i64 0, .int .i64 0, .int .i64 0, .int .i64 0, .int .i64 0, .int .i64 0, .int .i64 0, .int .i64 0, .int .i64 0, .int .i64 0, .int .i64 0] 71)).alloc (.cells #[.int .i64 0, .int .i64 0, .int .i64 0, .int .i64 0, .int .i64 0, .int .i64 0, .int .i64 0, .int .i64 0, .int .i64 0, .int .i64 0, .int .i64 0, .int .i64 0, .int .i64 0, .int .i64 0, .int .i64 0, .int .i64 0, .int .i64 0, .int .i64 0, .int .i64 0, .int .i64 0, .int .i64 0] 71)).heap[w.heap.size + 1]? = some (.cells #[.int .i64 0, .int .i64 0, .int .i64 0, .int .i64 0, .int .i64 0, .int .i64 0, .int .i64 0, .int .i64 0, .int .i64 0, .int .i64 0, .int .i64 0, .int .i64 0, .int .i64 0, .int .i64 0, .int .i64 0, .int .i64 0, .int .i64 0, .int .i64 0, .int .i64 0, .int .i64 0, .int .i64 0] 71 (0, 0))) := by
    have := heap_alloc_new (w.alloc (.cells #[.int .i64 p, .int .i64 wd, .int .i64 ht, .int .i64 rs, .slice ao n cap] 26)) (.cells #[.int .i64 0, .int .i64 0, .int .i64 0, .int .i64 0, .int .i64 0, .int .i64 0, .int .i64 0, .int .i64 0, .int .i64 0, .int .i64 0, .int .i64 0, .int .i64 0, .int .i64 0, .int .i64 0, .int .i64 0, .int .i64 0, .int .i64 0, .int .i64 0, .int .i64 0, .int .i64 0, .int .i64 0] 71)
    unfold Hid
    rw [Below.heap_alloc _ _ _ (by simp)]
    simpa using this
  have HB0 : Hid ((((w.alloc (.cells #[.int .i64 p, .int .i64 wd, .int .i64 ht, .int .i64 rs, .slice ao n cap] 26)).alloc (.cells #[.int .i64 0, .int .i64 0, .int .i64 0, .int .i64 0, .int .i64 0, .int .i64 0, .int .i64 0, .int .i64 0, .int .i64 0, .int .i64 0, .int .i64 0, .int .i64 0, .int .i64 0, .int .i64 0, .int .i64 0, .int .i64 0, .int .i64 0, .int .i64 0, .int .i64 0, .int .i64 0, .int .i64 0] 71)).alloc (.cells #[.int .i64 0, .int .i64 0, .int .i64 0, .int .i64 0, .int .i64 0, .int .i64 0, .int .i64 0, .int .i64 0, .int .i64 0, .int .i64 0, .int .i64 0, .int .i64 0, .int .i64 0, .int .i64 0, .int .i64 0, .int .i64 0, .int .i64 0, .int .i64 0, .int .i64 0, .int .i64 0, .int .i64 0] 71)).heap[w.heap.size]? = some (.cells #[.int .i64 p, .int .i64 wd, .int .i64 ht, .int .i64 rs, .slice ao n cap] 26 (0, 0))) := by
    have := heap_alloc_new w (.cells #[.int .i64 p, .int .i64 wd, .int .i64 ht, .int .i64 rs, .slice ao n cap] 26)
    unfold Hid
    rw [Below.heap_alloc _ _ _ (by simp; omega), Below.heap_alloc _ _ _ (by simp)]
    exact this
  have HGS : Hid ((((w.alloc (.cells #[.int .i64 p, .int .i64 wd, .int .i64 ht, .int .i64 rs, .slice ao n cap] 26)).alloc (.cells #[.int .i64 0, .int .i64 0, .int .i64 0, .int .i64 0, .int .i64 0, .int .i64 0, .int .i64 0, .int .i64 0, .int .i64 0, .int .i64 0, .int .i64 0, .int .i64 0, .int .i64 0, .int .i64 0, .int .i64 0, .int .i64 0, .int .i64 0, .int .i64 0, .int .i64 0, .int .i64 0, .int .i64 0] 71)).alloc (.cells #[.int .i64 0, .int .i64 0, .int .i64 0, .int .i64 0, .int .i64 0, .int .i64 0, .int .i64 0, .int .i64 0, .int .i64 0, .int .i64 0, .int .i64 0, .int .i64 0, .int .i64 0, .int .i64 0, .int .i64 0, .int .i64 0, .int .i64 0, .int .i64 0, .int .i64 0, .int .i64 0, .int .i64 0] 71)).heap.size = w.heap.size + 3) := by unfold Hid; simp
  have G0 : Hid (w.grownBy (((w.alloc (.cells #[.int .i64 p, .int .i64 wd, .int .i64 ht, .int .i64 rs, .slice ao n cap] 26)).alloc (.cells #[.int .i64 0, .int .i64 0, .int .i64 0, .int .i64 0, .int .i64 0, .int .i64 0, .int .i64 0, .int .i64 0, .int .i64 0, .int .i64 0, .int .i64 0, .int .i64 0, .int .i64 0, .int .i64 0, .int .i64 0, .int .i64 0, .int .i64 0, .int .i64 0, .int .i64 0, .int .i64 0, .int .i64 0] 71)).alloc (.cells #[.int .i64 0, .int .i64 0, .int .i64 0, .int .i64 0, .int .i64 0, .int .i64 0, .int .i64 0, .int .i64 0, .int .i64 0, .int .i64 0, .int .i64 0, .int .i64 0, .int .i64 0, .int .i64 0, .int .i64 0, .int .i64 0, .int .i64 0, .int .i64 0, .int .i64 0, .int .i64 0, .int .i64 0] 71)) none) := grown_alloc (grown_alloc (grown_alloc (World.grownBy.refl _ _) _) _) _
  clear hX0
  go_enter Try.func42, Try.ntmps42
  go_wp2_with (refine wpList_store_row rfl 71 _ _ rfl (w.heap.size + 1 + 1) rfl X0 (congrArg _ (unhide HX0)) #[.int .i64 0, .int .i64 0, .int .i64 0, .int .i64 0, .int .i64 0, .int .i64 0, .int .i64 0, .int .i64 0, .int .i64 0, .int .i64 0, .int .i64 0, .int .i64 0, .int .i64 0, .int .i64 0, .int .i64 0, .int .i64 0, .int .i64 0, .int .i64 0, .int .i64 0, .int .i64 0, .int .i64 0] 71 (unhide HB2) (unhide HF0).size.symm (unhide HI0) (unhide HF0).one ?_; intro w3 hB3 g3)
  have hGS := unhide HGS
  have hBf := (g3.block w.heap.size (by omega) (by simp; omega)).trans (unhide HB0)
  have hBr := (g3.block (w.heap.size + 1) (by omega) (by simp)).trans (unhide HB1)
  have G3 : w.grownBy w3 none := grown_new (unhide G0) g3 (fun g e => by simp at e; omega)
  have c4 : w3.cell? ⟨w.heap.size, 4, none⟩ = some (.slice ao n cap) := by rw [cell_of_row w3 _ 4 _ _ (0, 0) hBf]; rfl
  have HBR := hide hBr
  have HGR := hide G3
  have HB3 := hide hB3
  have hs3 : w.heap.size + 3 ≤ w3.heap.size := by have := g3.size; omega
  clear hBf hBr hB3 g3 G3 HB0 HB1 HB2 HGS G0 hGS
  have HRC := hide ((unhide HR).grown (unhide HGR))
  have hmin : Nat.min n 4 ≤ 4 := Nat.min_le_right _ _
  have hmin2 : Nat.min n 4 ≤ n := Nat.min_le_left _ _
  have HRL : Hid ((rowsK (Nat.min n 4) 4 (compCells C)).length = Nat.min n 4 * 4) := rowsK_len _ _ _
  have HFIT : Hid (5 + (rowsK (Nat.min n 4) 4 (compCells C)).length ≤ X0.size) := by unfold Hid; rw [unhide HRL, (unhide HF0).size]; omega
  have HONE : Hid (∀ v ∈ rowsK (Nat.min n 4) 4 (compCells C), v.oneCell' = true) := rowsK_one (fun _ _ => rfl)
  have HSRC := hide (rdC_src (unhide HRC) hmin2)
  go_region_law (refine step_copyK rfl (.tmp 17) (.tmp 19) 24 24 rfl 68 Try.underlying24 4 (by kernel_rfl) (w.heap.size + 1 + 1) 5 4 4 ao n cap rfl rfl X0 71 (unhide HB3) (rowsK (Nat.min n 4) 4 (compCells C)) (unhide HRL) (unhide HSRC) (unhide HFIT) (unhide HONE) ?_; intro w4 hB4 g4)
  have HF1 := hide (fx_copied (unhide HF0) (Nat.min n 4) C hmin)
  have hBr := (g4.block (w.heap.size + 1) (show w.heap.size + 1 < w3.heap.size by omega) (by simp)).trans (unhide HBR)
  have G4 : w.grownBy w4 none := grown_new (grown_drew (unhide HGR)) g4 (fun g e => by simp at e; omega)
  have hs4 : w.heap.size + 3 ≤ w4.heap.size := by have h : w3.heap.size ≤ w4.heap.size := g4.size; omega
  clear g4 HSRC HONE HFIT HRL c4 HB3 HBR HRC HGR
  obtain ⟨X1, hX1⟩ : ∃ X1 : Array Value, (X0.toList.take 5 ++ rowsK (Nat.min n 4) 4 (compCells C) ++ X0.toList.drop (5 + (rowsK (Nat.min n 4) 4 (compCells C)).length)).toArray = X1 := ⟨_, rfl⟩
  rw [hX1] at HF1 hB4
  clear hX1
  have hB4' := unhide hB4
  have hs1 := (unhide HF1).size
  have HCG : Hid (n ≤ 4 → ∀ i, i < n → (fun i j => if i < Nat.min n 4 then C i j else (fun _ _ => 0 : Nat → Nat → Int) i j) i = C i) := by
    intro h4 i hi
    have e : Nat.min n 4 = n := Nat.min_eq_left h4
    funext j
    rw [e]
    simp only [if_pos hi]
  have HFB1 : Hid (frameB p wd ht rs n (fun i j => if i < Nat.min n 4 then C i j else (fun _ _ => 0 : Nat → Nat → Int) i j) = b) := by
    unfold Hid
    rw [← unhide HFB, frameB, frameB, compsB_congr (unhide HCG)]
  have HN4 : Hid (b = true → n ≤ 4) := by
    intro hb
    rw [← unhide HFB, frameB, Bool.and_eq_true, compsB, Bool.and_eq_true] at hb
    have := of_decide_eq_true hb.2.1
    omega
  generalize (fun i j => if i < Nat.min n 4 then C i j else (fun _ _ => 0 : Nat → Nat → Int) i j) = D at *
  clear hB4
  obtain ⟨R, HRR⟩ : ∃ R : Array Value, Hid ((if frameB p wd ht rs n D = true then X1 else #[.int .i64 0, .int .i64 0, .int .i64 0, .int .i64 0, .int .i64 0, .int .i64 0, .int .i64 0, .int .i64 0, .int .i64 0, .int .i64 0, .int .i64 0, .int .i64 0, .int .i64 0, .int .i64 0, .int .i64 0, .int .i64 0, .int .i64 0, .int .i64 0, .int .i64 0, .int .i64 0, .int .i64 0]) = R) := ⟨_, rfl⟩
  have HRS : Hid (R.size = 21) := by unfold Hid; rw [← unhide HRR]; split; exact hs1; rfl
  have HRO : Hid (R.all (·.oneCell') = true) := by unfold Hid; rw [← unhide HRR]; split; exact (unhide HF1).one; decide +kernel
  go_wp2_with (refine wpList_load_row rfl 71 _ rfl (w.heap.size + 1 + 1) rfl X1 71 hB4' _ Try.underlying71 rfl (by rw [hs1]; kernel_rfl) ?_)
  refine (orNone X1 p wd ht rs n D (unhide HF1) R HRR _).mono ?_
  rintro e w5 ⟨rfl, g5⟩
  have hBr5 := (g5.block (w.heap.size + 1) (by omega) (by simp)).trans hBr
  have G5 := grown_trans G4 g5
  clear hBr hB4'
  go_wp2_with (refine wpList_store_row rfl 71 _ _ rfl (w.heap.size + 1) rfl R rfl #[.int .i64 0, .int .i64 0, .int .i64 0, .int .i64 0, .int .i64 0, .int .i64 0, .int .i64 0, .int .i64 0, .int .i64 0, .int .i64 0, .int .i64 0, .int .i64 0, .int .i64 0, .int .i64 0, .int .i64 0, .int .i64 0, .int .i64 0, .int .i64 0, .int .i64 0, .int .i64 0, .int .i64 0] 71 hBr5 (unhide HRS).symm (by rw [unhide HRS]; kernel_rfl) (unhide HRO) ?_; intro w6 hB6 g6)
  refine bodyPost_ret (v := .agg R) ?_ rfl ⟨R, rfl, fun hb => ?_, fun hb => ?_, ?_⟩
  · rw [results_cell1 rfl]
    exact loadFx (unhide HRS) hB6
  · rw [← unhide HRR, unhide HFB1, hb]; rfl
  · refine ⟨D, ?_, unhide HCG (unhide HN4 hb)⟩
    have e : R = X1 := by rw [← unhide HRR, unhide HFB1, hb]; rfl
    rw [e]; exact unhide HF1
  · exact grown_new G5 g6 (fun g e => by simp at e; omega)

end Go.Proofs.Ytnjcmlmgjoaeeaa

namespace Go.Proofs.Ytnjcmlmgjoaeeaa
open Go.RowKit Go.ChangeShapes Go.WideShapes Go.Deep

set_option maxRecDepth 100000 in
theorem frame_open {H : Type} {enc : TypeId × Value → H} {W : World} {base b0 : Nat} {spare : Nat → Bool} {held : Bool} {r : Reach} {v : Value} {d : DataW H} {ps : List MemPlace}
    (hv : Value.okWide Try.prog W r b0 42 v) (h : DataW.Trod enc Try.prog W base spare held 42 v d ps) :
    ∃ (p wd ht rs : Int) (ao : Option Addr) (n cap : Nat) (C : Nat → Nat → Int), v = .agg #[.int .i64 p, .int .i64 wd, .int .i64 ht, .int .i64 rs, .slice ao n cap] ∧ RdC W ao n C ∧ n ≤ maxLen := by
  obtain ⟨cs, rfl, hsz⟩ := okWide_struct Try.underlying42 hv
  have hc5 : cs.size = 5 := by rw [hsz]; kernel_rfl
  have ci : Try.prog.cellsOf 3 = 1 := by kernel_rfl
  have cl : Try.prog.cellsOf 40 = 1 := by kernel_rfl
  have ce : Try.prog.cellsOf 107 = 4 := by kernel_rfl
  obtain ⟨l⟩ := cs
  match l, hc5 with
  | [a0, a1, a2, a3, a4], _ =>
    obtain ⟨fuel, hf⟩ := h
    obtain ⟨xs, n, _, _, hl, hlen, hfld⟩ := DataW.trod_struct Try.underlying42 hf
    obtain ⟨y0, y1, y2, y3, y4, rfl⟩ : ∃ y0 y1 y2 y3 y4, xs = [y0, y1, y2, y3, y4] := by
      match xs, hlen with
      | [y0, y1, y2, y3, y4], _ => exact ⟨y0, y1, y2, y3, y4, rfl⟩
    have g0 := hfld 0 _ rfl
    have g1 := hfld 1 _ rfl
    have g2 := hfld 2 _ rfl
    have g3 := hfld 3 _ rfl
    have g4 := hfld 4 _ rfl
    simp [ci, cl, Value.cells] at g0 g1 g2 g3 g4
    obtain ⟨p, e0, _, _⟩ := DataW.trod_int Try.underlying3 g0
    obtain ⟨wd, e1, _, _⟩ := DataW.trod_int Try.underlying3 g1
    obtain ⟨ht, e2, _, _⟩ := DataW.trod_int Try.underlying3 g2
    obtain ⟨rs, e3, _, _⟩ := DataW.trod_int Try.underlying3 g3
    simp at e0 e1 e2 e3
    subst e0 e1 e2 e3
    rcases open_slice Try.underlying40 g4 with ⟨hcs, _⟩ | ⟨a, len, cap, m, k, D, Pl, hcs, _, hle, hmx, hmm, _, hall⟩
    · simp at hcs
      subst hcs
      exact ⟨p, wd, ht, rs, none, 0, 0, fun _ _ => 0, rfl, fun i hi => absurd hi (by omega), by unfold maxLen; omega⟩
    · simp at hcs
      subst hcs
      have hlm : len ≤ m := by rw [hmm]; split <;> omega
      have hch : ∀ i, ∃ q : Nat → Int, i < len → ∀ j, j < 4 → W.cell? (a.add (i * 4 + j)) = some (.int .i64 (q j)) := by
        intro i
        by_cases hi : i < len
        · obtain ⟨cs', h1, h2⟩ := hall i (by omega)
          rw [ce] at h1
          obtain ⟨_, hlen', hcell⟩ := World.cells?_some h1
          obtain ⟨ys, k', _, _, _, hyl, hfe⟩ := DataW.trod_struct Try.underlying107 h2
          obtain ⟨y0, y1, y2, y3, rfl⟩ : ∃ y0 y1 y2 y3, ys = [y0, y1, y2, y3] := by
            match ys, hyl with
            | [y0, y1, y2, y3], _ => exact ⟨y0, y1, y2, y3, rfl⟩
          match cs', hlen' with
          | [v0, v1, v2, v3], _ =>
            have f0 := hfe 0 _ rfl
            have f1 := hfe 1 _ rfl
            have f2 := hfe 2 _ rfl
            have f3 := hfe 3 _ rfl
            simp [ci] at f0 f1 f2 f3
            obtain ⟨q0, e0, _, _⟩ := DataW.trod_int Try.underlying3 f0
            obtain ⟨q1, e1, _, _⟩ := DataW.trod_int Try.underlying3 f1
            obtain ⟨q2, e2, _, _⟩ := DataW.trod_int Try.underlying3 f2
            obtain ⟨q3, e3, _, _⟩ := DataW.trod_int Try.underlying3 f3
            simp at e0 e1 e2 e3
            subst e0 e1 e2 e3
            refine ⟨fun j => if j = 0 then q0 else if j = 1 then q1 else if j = 2 then q2 else q3, fun _ j hj => ?_⟩
            have hcj := hcell j (by simpa using hj)
            rw [add_add] at hcj
            have : j = 0 ∨ j = 1 ∨ j = 2 ∨ j = 3 := by omega
            rcases this with rfl | rfl | rfl | rfl <;> simpa using hcj
        · exact ⟨fun _ => 0, fun h => absurd h hi⟩
      obtain ⟨C, hC⟩ := Classical.axiomOfChoice hch
      refine ⟨p, wd, ht, rs, some a, len, cap, C, rfl, fun i hi => ?_, by omega⟩
      obtain ⟨b, off, spot⟩ := a
      have hspot : spot = none := by
        have := hC 0 (by omega) 0 (by omega)
        simpa [Addr.add] using World.cell?_spot this
      subst hspot
      refine ⟨b, off, rfl, fun j hj => ?_⟩
      have := hC i hi j hj
      rw [Addr.add_lit] at this
      rw [Nat.add_assoc]
      exact this

end Go.Proofs.Ytnjcmlmgjoaeeaa

namespace Go.Proofs.Ytnjcmlmgjoaeeaa
open Go.RowKit Go.ChangeShapes Go.WideShapes Go.Deep

def OpenC {α : Type} (t : TypeId) (Q : World → Value → α → Prop) : Prop :=
  ∀ (H : Type) (enc : TypeId × Value → H) (W : World) (base : Nat) (spare : Nat → Bool) (held : Bool) (fuel : Nat) (u : Value) (x : DataW H × List MemPlace), DataW.trod enc Try.prog W base spare held fuel t [u] = some x → ∃ a, Q W u a

theorem open_row {α : Type} {Q : World → Value → α → Prop} {t e : TypeId} (ht : Try.prog.underlying t = some (.slice e)) (hc : Try.prog.cellsOf e = 1) (he : OpenC e Q) : OpenC t (RdZ (RdR Q)) := by
  intro H enc W base spare held fuel u x h
  rcases open_slice1 ht hc h with ⟨hcs, _⟩ | ⟨a, len, cap, m, n, V, D, Pl, hcs, _, hl, hm, hmm, _, hall⟩
  · simp at hcs
    subst hcs
    exact ⟨[], ⟨none, 0, rfl, fun i hi => absurd hi (by simp)⟩, by unfold maxLen; simp⟩
  · simp at hcs
    subst hcs
    have hlm : len ≤ m := by rw [hmm]; split <;> omega
    obtain ⟨b, off, spot⟩ := a
    have hex : ∀ i, i < len → ∃ q, Q W (V i) q := fun i hi => he H enc W base spare held n (V i) _ (hall i (by omega)).2
    rcases Nat.eq_zero_or_pos len with h0 | h0
    · subst h0
      exact ⟨[], ⟨some ⟨b, off, spot⟩, cap, rfl, fun i hi => absurd hi (by simp)⟩, by unfold maxLen; simp⟩
    · have hspot : spot = none := by simpa [Addr.add] using World.cell?_spot (hall 0 (by omega)).1
      subst hspot
      obtain ⟨q0, _⟩ := hex 0 h0
      have hch : ∀ i, ∃ q : α, i < len → Q W (V i) q := fun i => by
        by_cases hi : i < len
        · obtain ⟨q, hq⟩ := hex i hi; exact ⟨q, fun _ => hq⟩
        · exact ⟨q0, fun h => absurd h hi⟩
      obtain ⟨q, hq⟩ := Classical.axiomOfChoice hch
      refine ⟨(List.range len).map q, ⟨some ⟨b, off, none⟩, cap, by simp, fun i hi => ?_⟩, by simp; omega⟩
      have hi' : i < len := by simpa using hi
      refine ⟨b, off, V i, rfl, ?_, ?_⟩
      · have := (hall i (by omega)).1
        rw [Addr.add_lit] at this
        exact this
      · simp; exact hq i hi'

theorem open_intRow {t : TypeId} (ht : Try.prog.underlying t = some (.slice 3)) : OpenC t (RdZ (RdI .i64)) := by
  intro H enc W base spare held fuel u x h
  rcases open_ints ht Try.underlying3 (by kernel_rfl) h with ⟨hcs, _⟩ | ⟨a, l, c, zs, hcs, _, hl, hm, hz, _, hcell, _⟩
  · simp at hcs
    subst hcs
    exact ⟨[], ⟨none, 0, rfl, rfl, fun i hi => absurd hi (by simp)⟩, by unfold maxLen; simp⟩
  · simp at hcs
    subst hcs
    have hzl : l ≤ zs.length := by rw [hz]; split <;> omega
    have hzt : (zs.take l).length = l := by simp; omega
    refine ⟨zs.take l, ⟨some a, c, by rw [hzt], ?_⟩, by rw [hzt]; omega⟩
    rw [hzt]
    refine ⟨hzt, fun i hi => ?_⟩
    obtain ⟨b, off, spot⟩ := a
    have hc0 := hcell i (by omega)
    have hspot : spot = none := by simpa [Addr.add] using World.cell?_spot (hcell 0 (by omega))
    subst hspot
    refine ⟨b, off, rfl, ?_⟩
    rw [Addr.add_lit] at hc0
    have e : (zs.take l).getD i 0 = zs.getD i 0 := by simp [hi]
    rw [e]
    exact hc0

end Go.Proofs.Ytnjcmlmgjoaeeaa
