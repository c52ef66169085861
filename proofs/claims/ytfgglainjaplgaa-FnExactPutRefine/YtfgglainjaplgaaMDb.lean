/-
  ScanRows, ScanTo, ScanHeld, ScanSz, TreeOpen0, ScanOpen, ScanMark, PassForms, Between, LevSpec, FramePure, GeoPure, GeoOrd, FrameImpl, FrameImpl2, FrameImpl3, FrameSpec, GeoSpec, GeoCompsS, ScanSpec, Ints.
-/
import Derived.Deep.RegionHeld3
import Derived.OpenShut
import Derived.Deep.SlicePairs
import Derived.Deep.Slices
import Derived.Test.YtfgglainjaplgaaRows
import Derived.Deep.WholeRow
import Derived.Deep.MidRow
import Derived.Laws.CopyOwn
import Derived.Laws.ResultCell
import Derived.Deep.QuietTactic
import Derived.BigQuiet
import Derived.Test.YtfgglainjaplgaaMDa

namespace Go.Proofs.Ytfgglainjaplgaa
open Go.RowKit

structure Scn where
  cs : List Int
  fr : Int
  to : Int
  hi : Int
  lo : Int
def Scn.zero : Scn := ⟨[], 0, 0, 0, 0⟩
def scC (c : Nat → Value) (a : Scn) : Prop := c 1 = .int .i64 a.fr ∧ c 2 = .int .i64 a.to ∧ c 3 = .int .i64 a.hi ∧ c 4 = .int .i64 a.lo
def scV (v : Value) (a : Scn) : Value := .agg #[v, .int .i64 a.fr, .int .i64 a.to, .int .i64 a.hi, .int .i64 a.lo]
def szSc (a : Scn) : Nat := lenI a.cs
/-- A scan that is read, and one that is owned. -/
def RdSc (w : World) (u : Value) (a : Scn) : Prop := ∃ v, u = scV v a ∧ RdI .i64 w v a.cs
def OwSc (w : World) (u : Value) (a : Scn) (F : List Nat) : Prop := ∃ v, u = scV v a ∧ OwI .i64 3 w v a.cs F
theorem RdSc.st : StR RdSc := fun _ _ _ _ ⟨v, e, h⟩ g => ⟨v, e, RdI.st .i64 _ _ _ _ h g⟩
theorem OwSc.rd {w : World} {u : Value} {a : Scn} {F : List Nat} (h : OwSc w u a F) : RdSc w u a := by obtain ⟨v, e, h⟩ := h; exact ⟨v, e, h.rd⟩
/-- The same in a row. -/
def RdScE (w : World) (c : Nat → Value) (a : Scn) : Prop := scC c a ∧ RdI .i64 w (c 0) a.cs
def OwScE (w : World) (c : Nat → Value) (a : Scn) (F : List Nat) : Prop := scC c a ∧ OwI .i64 3 w (c 0) a.cs F
theorem RdScE.st : StG RdScE := fun _ _ _ _ ⟨e, h⟩ g => ⟨e, RdI.st .i64 _ _ _ _ h g⟩
theorem OwScE.ok : OkG OwScE := ⟨fun _ _ _ _ _ h hs => ⟨h.1, ok1.same _ _ _ _ _ h.2 hs⟩, fun _ _ _ _ h => ok1.lt _ _ _ _ h.2⟩
abbrev RdSs := RdG 5 RdScE
abbrev OwSs := OwG 26 5 OwScE
theorem RdSs.st : StR RdSs := RdG.st RdScE.st
theorem OwSs.ok : OwOk OwSs := OwG.ok OwScE.ok
theorem OwSs.rd {w : World} {v : Value} {L : List Scn} {F : List Nat} (h : OwSs w v L F) : RdSs w v L := OwG.rd (fun _ _ _ _ h => ⟨h.1, h.2.rd⟩) h

theorem scanCells {w : World} {g : Nat} {a b c d v : Value} {t : TypeId} (hb : w.heap[g]? = some (.cells #[v, a, b, c, d] t (0, 0))) :
    w.cell? ⟨g, 0, none⟩ = some v ∧ w.cell? ⟨g, 1, none⟩ = some a ∧ w.cell? ⟨g, 2, none⟩ = some b ∧ w.cell? ⟨g, 3, none⟩ = some c ∧ w.cell? ⟨g, 4, none⟩ = some d :=
  ⟨by rw [cell_of_row w g 0 _ _ (0, 0) hb]; rfl, by rw [cell_of_row w g 1 _ _ (0, 0) hb]; rfl, by rw [cell_of_row w g 2 _ _ (0, 0) hb]; rfl, by rw [cell_of_row w g 3 _ _ (0, 0) hb]; rfl, by rw [cell_of_row w g 4 _ _ (0, 0) hb]; rfl⟩

theorem at_rowS {a b : World} {row : Option Nat} {k : Nat} {o : Obj} (g : a.grownBy b row) (h : a.heap[k]? = some o) (hne : row ≠ some k) : b.heap[k]? = some o :=
  (g.block k (Array.getElem?_eq_some_iff.1 h).1 (fun e => hne e.symm)).trans h

set_option maxHeartbeats 1600000 in
theorem eqScanC : EqC 26 RdSc szSc := by
  intro w u u' a hq hq' hs
  obtain ⟨v, rfl, hv⟩ := hq
  obtain ⟨v', rfl, hv'⟩ := hq'
  obtain ⟨cs, fr, to, hi, lo⟩ := a
  obtain ⟨vo, vc, rfl, hr⟩ := id hv
  obtain ⟨vo', vc', rfl, hr'⟩ := id hv'
  clear hr hr'
  dsimp only at hv hv' ⊢
  obtain ⟨vn, HVN⟩ : ∃ vn, Hid (cs.length = vn) := ⟨_, rfl⟩
  rw [unhide HVN] at hv hv' ⊢
  obtain ⟨W2, HW2⟩ : ∃ W2, Hid ((w.alloc (.cells #[.slice vo vn vc, .int .i64 fr, .int .i64 to, .int .i64 hi, .int .i64 lo] 26)).alloc (.cells #[.slice vo' vn vc', .int .i64 fr, .int .i64 to, .int .i64 hi, .int .i64 lo] 26) = W2) := ⟨_, rfl⟩
  have G0 : w.grownBy W2 none := by rw [← unhide HW2]; exact grown_alloc (grown_alloc (World.grownBy.refl _ _) _) _
  have B0 : W2.heap[w.heap.size]? = some (.cells #[.slice vo vn vc, .int .i64 fr, .int .i64 to, .int .i64 hi, .int .i64 lo] 26 (0, 0)) := by
    rw [← unhide HW2]
    exact at_rowS (World.grownBy_alloc _ _ none) (heap_alloc_new w _) (by simp)
  have B1 : W2.heap[w.heap.size + 1]? = some (.cells #[.slice vo' vn vc', .int .i64 fr, .int .i64 to, .int .i64 hi, .int .i64 lo] 26 (0, 0)) := by
    rw [← unhide HW2]
    have := heap_alloc_new (w.alloc (.cells #[.slice vo vn vc, .int .i64 fr, .int .i64 to, .int .i64 hi, .int .i64 lo] 26)) (.cells #[.slice vo' vn vc', .int .i64 fr, .int .i64 to, .int .i64 hi, .int .i64 lo] 26)
    simpa using this
  have HEQ := hide (eqIntSC W2 (.slice vo vn vc) (.slice vo' vn vc') cs (RdI.st .i64 _ _ _ _ hv G0) (RdI.st .i64 _ _ _ _ hv' G0) hs)
  have HB0 := hide B0
  have HB1 := hide B1
  have HG0 := hide G0
  have n1 : (fr != fr) = false := by simp
  have n2 : (to != to) = false := by simp
  have n3 : (hi != hi) = false := by simp
  have n4 : (lo != lo) = false := by simp
  have a0 := unhide HB0
  rw [← unhide HW2] at a0 B1
  obtain ⟨c0, c1, c2, c3, c4⟩ := scanCells a0
  obtain ⟨d0, d1, d2, d3, d4⟩ := scanCells B1
  clear hv hv' hs G0 B0 B1 a0
  unfold scV
  dsimp only
  go_enter Try.func26, Try.ntmps26
  go_wp2_with fail
  rw [unhide HW2]
  clear HW2 c0 c1 c2 c3 c4 d0 d1 d2 d3 d4
  refine (unhide HEQ).mono ?_
  rintro e w3 ⟨rfl, g3⟩
  obtain ⟨c0, c1, c2, c3, c4⟩ := scanCells (at_rowS g3 (unhide HB0) (by simp))
  obtain ⟨d0, d1, d2, d3, d4⟩ := scanCells (at_rowS g3 (unhide HB1) (by simp))
  have HG3 := hide (grown_trans (unhide HG0) g3)
  clear g3 HEQ HB0 HB1 HG0
  go_wp2
  go_ret
  exact ⟨rfl, unhide HG3⟩

theorem rowScan {w : World} {b off i : Nat} {c : Nat → Value} {a : Scn} (h : ∀ j, j < 5 → w.cell? ⟨b, off + i * 5 + j, none⟩ = some (c j)) (hc : scC c a) :
    w.cell? ⟨b, off + i * 5, none⟩ = some (c 0) ∧ w.cell? ⟨b, off + i * 5 + 1, none⟩ = some (.int .i64 a.fr) ∧ w.cell? ⟨b, off + i * 5 + 2, none⟩ = some (.int .i64 a.to) ∧ w.cell? ⟨b, off + i * 5 + 3, none⟩ = some (.int .i64 a.hi) ∧ w.cell? ⟨b, off + i * 5 + 4, none⟩ = some (.int .i64 a.lo) := by
  obtain ⟨e1, e2, e3, e4⟩ := hc
  exact ⟨h 0 (by omega), by rw [h 1 (by omega), e1], by rw [h 2 (by omega), e2], by rw [h 3 (by omega), e3], by rw [h 4 (by omega), e4]⟩

end Go.Proofs.Ytfgglainjaplgaa

namespace Go.Proofs.Ytfgglainjaplgaa
open Go.RowKit

set_option maxRecDepth 20000 in
set_option maxHeartbeats 1600000 in
theorem toScanC : ToC 24 RdSc OwSc szSc := by
  intro w u a hq hs
  obtain ⟨v, rfl, hv⟩ := hq
  obtain ⟨cs, fr, to, hi, lo⟩ := a
  obtain ⟨vo, vc, rfl, hr⟩ := id hv
  clear hr
  dsimp only at hv ⊢
  obtain ⟨vn, HVN⟩ : ∃ vn, Hid (cs.length = vn) := ⟨_, rfl⟩
  rw [unhide HVN] at hv ⊢
  obtain ⟨W3, HW3⟩ : ∃ W3, Hid (((w.alloc (.cells #[.slice vo vn vc, .int .i64 fr, .int .i64 to, .int .i64 hi, .int .i64 lo] 45)).alloc (.cells #[.slice none 0 0, .int .i64 0, .int .i64 0, .int .i64 0, .int .i64 0] 26)).alloc (.cells #[.slice none 0 0, .int .i64 0, .int .i64 0, .int .i64 0, .int .i64 0] 26) = W3) := ⟨_, rfl⟩
  have G0 : w.grownBy W3 none := by rw [← unhide HW3]; exact grown_alloc (grown_alloc (grown_alloc (World.grownBy.refl _ _) _) _) _
  have B0 : W3.heap[w.heap.size]? = some (.cells #[.slice vo vn vc, .int .i64 fr, .int .i64 to, .int .i64 hi, .int .i64 lo] 45 (0, 0)) := by
    rw [← unhide HW3]
    exact at_rowS (World.grownBy_alloc _ _ none) (at_rowS (World.grownBy_alloc _ _ none) (heap_alloc_new w _) (by simp)) (by simp)
  have B1 : W3.heap[w.heap.size + 1]? = some (.cells #[.slice none 0 0, .int .i64 0, .int .i64 0, .int .i64 0, .int .i64 0] 26 (0, 0)) := by
    rw [← unhide HW3]
    refine at_rowS (World.grownBy_alloc _ _ none) ?_ (by simp)
    have := heap_alloc_new (w.alloc (.cells #[.slice vo vn vc, .int .i64 fr, .int .i64 to, .int .i64 hi, .int .i64 lo] 45)) (.cells #[.slice none 0 0, .int .i64 0, .int .i64 0, .int .i64 0, .int .i64 0] 26)
    simpa using this
  have B2 : W3.heap[w.heap.size + 1 + 1]? = some (.cells #[.slice none 0 0, .int .i64 0, .int .i64 0, .int .i64 0, .int .i64 0] 26 (0, 0)) := by
    rw [← unhide HW3]
    have := heap_alloc_new ((w.alloc (.cells #[.slice vo vn vc, .int .i64 fr, .int .i64 to, .int .i64 hi, .int .i64 lo] 45)).alloc (.cells #[.slice none 0 0, .int .i64 0, .int .i64 0, .int .i64 0, .int .i64 0] 26)) (.cells #[.slice none 0 0, .int .i64 0, .int .i64 0, .int .i64 0, .int .i64 0] 26)
    simpa using this
  have HTO := hide (toIntSC W3 (.slice vo vn vc) cs (RdI.st .i64 _ _ _ _ hv G0) hs)
  have HB0 := hide B0
  have HB1 := hide B1
  have HB2 := hide B2
  have HG0 := hide G0
  rw [← unhide HW3] at B0
  obtain ⟨c0, c1, c2, c3, c4⟩ := scanCells B0
  clear hv hs G0 B0 B1 B2
  unfold scV
  dsimp only
  go_enter Try.func24, Try.ntmps24
  go_wp2_with fail
  rw [unhide HW3]
  clear HW3 c0 c1 c2 c3 c4
  refine (unhide HTO).mono ?_
  rintro e w4 ⟨u4, F4, rfl, o4, n4, l4, g4⟩
  obtain ⟨o4', rfl⟩ := o4
  obtain ⟨uo, uc, rfl⟩ := own_form o4'
  rw [unhide HVN] at o4' l4 n4 ⊢
  have B0 := at_rowS g4 (unhide HB0) (by simp)
  have B1 := at_rowS g4 (unhide HB1) (by simp)
  have B2 := at_rowS g4 (unhide HB2) (by simp)
  have HS3 : Hid (w.heap.size + 3 ≤ W3.heap.size) := by have := (Array.getElem?_eq_some_iff.1 (unhide HB2)).1; unfold Hid; omega
  have HB1' := hide B1
  have HB2' := hide B2
  obtain ⟨c0, c1, c2, c3, c4⟩ := scanCells B0
  obtain ⟨d0, d1, d2, d3, d4⟩ := scanCells B1
  obtain ⟨e0, e1, e2, e3, e4⟩ := scanCells B2
  have fd : ∀ j, w4.frozen? ⟨w.heap.size + 1, j, none⟩ = false := fun j => frozen_of_row w4 _ j _ _ B1
  have fe : ∀ j, w4.frozen? ⟨w.heap.size + 1 + 1, j, none⟩ = false := fun j => frozen_of_row w4 _ j _ _ B2
  have q0 := fd 0
  have q1 := fd 1
  have q2 := fd 2
  have q3 := fd 3
  have q4 := fd 4
  have r0 := fe 0
  have r1 := fe 1
  have r2 := fe 2
  have r3 := fe 3
  have r4 := fe 4
  have HO4 := hide o4'
  have HL4 := hide l4
  have HN4 := hide n4
  have HG4 := hide (grown_trans (unhide HG0) g4)
  have HS4 := hide g4.size
  clear B0 B1 B2 o4' l4 n4 g4 fd fe HB0 HB1 HB2 HG0 HTO
  go_wp2
  have G5 := grown_trans (grown_trans (grown_trans (grown_trans (grown_set w4 (w.heap.size + 1 + 1) 0 (.slice uo vn uc)) (grown_set _ (w.heap.size + 1 + 1) 1 (.int .i64 fr))) (grown_set _ (w.heap.size + 1 + 1) 2 (.int .i64 to))) (grown_set _ (w.heap.size + 1 + 1) 3 (.int .i64 hi))) (grown_set _ (w.heap.size + 1 + 1) 4 (.int .i64 lo))
  obtain ⟨X5, hX5⟩ : ∃ X5, ((((w4.setCell ⟨w.heap.size + 1 + 1, 0, none⟩ (.slice uo vn uc)).setCell ⟨w.heap.size + 1 + 1, 1, none⟩ (.int .i64 fr)).setCell ⟨w.heap.size + 1 + 1, 2, none⟩ (.int .i64 to)).setCell ⟨w.heap.size + 1 + 1, 3, none⟩ (.int .i64 hi)).setCell ⟨w.heap.size + 1 + 1, 4, none⟩ (.int .i64 lo) = X5 := ⟨_, rfl⟩
  rw [hX5] at G5 ⊢
  have E1 := at_rowS G5 (unhide HB1') (by simp)
  have D0 := heap_setCell_same X5 (w.heap.size + 1) 0 _ _ (.slice uo vn uc) E1
  have D1 := heap_setCell_same _ (w.heap.size + 1) 1 _ _ (.int .i64 fr) D0
  have D2 := heap_setCell_same _ (w.heap.size + 1) 2 _ _ (.int .i64 to) D1
  have D3 := heap_setCell_same _ (w.heap.size + 1) 3 _ _ (.int .i64 hi) D2
  have D4 := heap_setCell_same _ (w.heap.size + 1) 4 _ _ (.int .i64 lo) D3
  simp only [List.setIfInBounds_toArray, List.set_cons_zero, List.set_cons_succ] at D4
  have G10 := grown_trans (grown_trans (grown_trans (grown_trans (grown_set X5 (w.heap.size + 1) 0 (.slice uo vn uc)) (grown_set _ (w.heap.size + 1) 1 (.int .i64 fr))) (grown_set _ (w.heap.size + 1) 2 (.int .i64 to))) (grown_set _ (w.heap.size + 1) 3 (.int .i64 hi))) (grown_set _ (w.heap.size + 1) 4 (.int .i64 lo))
  obtain ⟨X10, hX10⟩ : ∃ X10, ((((X5.setCell ⟨w.heap.size + 1, 0, none⟩ (.slice uo vn uc)).setCell ⟨w.heap.size + 1, 1, none⟩ (.int .i64 fr)).setCell ⟨w.heap.size + 1, 2, none⟩ (.int .i64 to)).setCell ⟨w.heap.size + 1, 3, none⟩ (.int .i64 hi)).setCell ⟨w.heap.size + 1, 4, none⟩ (.int .i64 lo) = X10 := ⟨_, rfl⟩
  rw [hX10] at D4 G10 ⊢
  obtain ⟨s0, s1, s2, s3, s4⟩ := scanCells D4
  clear hX5 hX10 D0 D1 D2 D3 E1
  have hb := fun g e => ((unhide HO4).lt g e).1
  have hbl : ∀ g, (Value.slice uo vn uc).ownBlock = some g → W3.heap.size ≤ g := fun g e => unhide HL4 g (mem_blk.2 e)
  have o5 := own_beneath (unhide HO4) G5 (fun a b h1 h2 => by have := hbl a h1; have := unhide HS3; simp at h2; omega)
  have o10 := own_beneath o5 G10 (fun a b h1 h2 => by have := hbl a h1; have := unhide HS3; simp at h2; omega)
  refine bodyPost_ret (v := .agg #[.slice uo vn uc, .int .i64 fr, .int .i64 to, .int .i64 hi, .int .i64 lo]) (by simp [results, Try.results24, go_sem, s0, s1, s2, s3, s4]) rfl ?_
  refine ⟨_, _, rfl, ⟨_, rfl, ?_, rfl⟩, blk_nodup _, fun g hg => ?_, grown_new (grown_new (unhide HG4) G5 (fun k e => by simp at e; omega)) G10 (fun k e => by simp at e; omega)⟩
  · rw [unhide HVN]; exact own_base o10 (Nat.zero_le _)
  · have := hbl g (mem_blk.1 hg); have := unhide HS3; omega

theorem info_scan : (Try.prog.info? 26).map (fun i => (i.zero, i.size, i.bytes)) = some (some (.agg #[.slice none 0 0, .int .i64 0, .int .i64 0, .int .i64 0, .int .i64 0]), 5, 56) := by kernel_rfl

def five (v a b c d : Value) (q : Nat) : Value := if q = 0 then v else if q = 1 then a else if q = 2 then b else if q = 3 then c else d
theorem own5 {w : World} {g cap n base : Nat} {e : TypeId} {U : Nat → Nat → Value} (h : w.ownsRow base e 5 (.slice (some ⟨g, 0, none⟩) n cap) n (rowsK n 5 U)) (i : Nat) (v a b c d : Value) :
    (((((w.setCell ⟨g, i * 5, none⟩ v).setCell ⟨g, i * 5 + 1, none⟩ a).setCell ⟨g, i * 5 + 2, none⟩ b).setCell ⟨g, i * 5 + 3, none⟩ c).setCell ⟨g, i * 5 + 4, none⟩ d).ownsRow base e 5 (.slice (some ⟨g, 0, none⟩) n cap) n (rowsK n 5 (fun p q => if p = i then five v a b c d q else U p q)) := by
  have s0 := (h.stored (i * 5 + 0) v).1
  rw [rowsK_set n 5 U i 0 v (by omega)] at s0
  have s1 := (s0.stored (i * 5 + 1) a).1
  rw [rowsK_set n 5 _ i 1 a (by omega)] at s1
  have s2 := (s1.stored (i * 5 + 2) b).1
  rw [rowsK_set n 5 _ i 2 b (by omega)] at s2
  have s3 := (s2.stored (i * 5 + 3) c).1
  rw [rowsK_set n 5 _ i 3 c (by omega)] at s3
  have s4 := (s3.stored (i * 5 + 4) d).1
  rw [rowsK_set n 5 _ i 4 d (by omega)] at s4
  rw [Nat.add_zero] at s4
  have e9 : rowsK n 5 (fun p q => if p = i then five v a b c d q else U p q) = rowsK n 5 (fun p q => if p = i ∧ q = 4 then d else if p = i ∧ q = 3 then c else if p = i ∧ q = 2 then b else if p = i ∧ q = 1 then a else if p = i ∧ q = 0 then v else U p q) := by
    apply rowsK_congr
    intro p q _ hq
    by_cases ep : p = i
    · subst ep
      have : q = 0 ∨ q = 1 ∨ q = 2 ∨ q = 3 ∨ q = 4 := by omega
      rcases this with rfl | rfl | rfl | rfl | rfl <;> simp [five]
    · simp [ep]
  rw [e9]
  exact s4
theorem fillZ {α : Type} (z : α) (a : List α) (i : Nat) (h : i < a.length) : (a.take i ++ List.replicate (a.length - i) z).set i a[i] = a.take (i + 1) ++ List.replicate (a.length - (i + 1)) z := by
  rw [List.set_append_right _ _ (by simp; omega)]
  have e1 : i - (a.take i).length = 0 := by simp; omega
  rw [e1, show a.length - i = (a.length - (i + 1)) + 1 by omega, List.replicate_succ, List.set_cons_zero, List.take_succ_eq_append_getElem h, List.append_assoc]
  rfl

end Go.Proofs.Ytfgglainjaplgaa

namespace Go.Proofs.Ytfgglainjaplgaa
open Go.RowKit

def cntSc (a : Scn) : Nat := lenI a.cs + 4
def mkSc (a : Scn) (k : Int) : Scn := ⟨mkI a.cs k, k + lenI a.cs, k + lenI a.cs + 1, k + lenI a.cs + 2, k + lenI a.cs + 3⟩

theorem own4 {w : World} {g cap n base : Nat} {e : TypeId} {U : Nat → Nat → Value} (h : w.ownsRow base e 5 (.slice (some ⟨g, 0, none⟩) n cap) n (rowsK n 5 U)) (i : Nat) (v a b c d : Value) (hv : U i 0 = v) :
    ((((w.setCell ⟨g, i * 5 + 1, none⟩ a).setCell ⟨g, i * 5 + 2, none⟩ b).setCell ⟨g, i * 5 + 3, none⟩ c).setCell ⟨g, i * 5 + 4, none⟩ d).ownsRow base e 5 (.slice (some ⟨g, 0, none⟩) n cap) n (rowsK n 5 (fun p q => if p = i then five v a b c d q else U p q)) := by
  have s1 := (h.stored (i * 5 + 1) a).1
  rw [rowsK_set n 5 _ i 1 a (by omega)] at s1
  have s2 := (s1.stored (i * 5 + 2) b).1
  rw [rowsK_set n 5 _ i 2 b (by omega)] at s2
  have s3 := (s2.stored (i * 5 + 3) c).1
  rw [rowsK_set n 5 _ i 3 c (by omega)] at s3
  have s4 := (s3.stored (i * 5 + 4) d).1
  rw [rowsK_set n 5 _ i 4 d (by omega)] at s4
  have e9 : rowsK n 5 (fun p q => if p = i then five v a b c d q else U p q) = rowsK n 5 (fun p q => if p = i ∧ q = 4 then d else if p = i ∧ q = 3 then c else if p = i ∧ q = 2 then b else if p = i ∧ q = 1 then a else U p q) := by
    apply rowsK_congr
    intro p q _ hq
    by_cases ep : p = i
    · subst ep
      have : q = 0 ∨ q = 1 ∨ q = 2 ∨ q = 3 ∨ q = 4 := by omega
      rcases this with rfl | rfl | rfl | rfl | rfl <;> simp [five, hv]
    · simp [ep]
  rw [e9]
  exact s4

end Go.Proofs.Ytfgglainjaplgaa

namespace Go.Proofs.Ytfgglainjaplgaa
open Go.RowKit

def RdScZ (w : World) (u : Value) (a : Scn) : Prop := ∃ v, u = scV v a ∧ RdZ (RdI .i64) w v a.cs
def RdScEZ (w : World) (c : Nat → Value) (a : Scn) : Prop := scC c a ∧ RdZ (RdI .i64) w (c 0) a.cs
abbrev RdSsZ := RdZ (RdG 5 RdScEZ)
theorem RdSsZ.rd {w : World} {v : Value} {L : List Scn} (h : RdSsZ w v L) : RdSs w v L := by
  obtain ⟨⟨ao, cap, e, hel⟩, _⟩ := h
  exact ⟨ao, cap, e, fun i hi => by obtain ⟨b, off, c, e1, h1, h2, h3, _⟩ := hel i hi; exact ⟨b, off, c, e1, h1, h2, h3⟩⟩

set_option maxHeartbeats 800000 in
theorem szScanC (w : World) (u : Value) (a : Scn) (left : Nat) (hq : RdScZ w u a) (hl : left ≤ 1048576) (r : Int) (HR : Hid ((if szSc a ≤ left then (left : Int) - szSc a else -1) = r)) :
    Calls Try.prog 22 #[u, .int .i64 left] w fun e w' => e = .returned (.int .i64 r) ∧ w.grownBy w' none := by
  obtain ⟨v, rfl, hv⟩ := hq
  obtain ⟨cs, fr, to, hi, lo⟩ := a
  obtain ⟨⟨vo, vc, rfl, hr⟩, hm⟩ := id hv
  clear hr hm
  dsimp only at hv ⊢
  obtain ⟨vn, HVN⟩ : ∃ vn, Hid (cs.length = vn) := ⟨_, rfl⟩
  rw [unhide HVN] at hv ⊢
  have G0 : w.grownBy (w.alloc (.cells #[.slice vo vn vc, .int .i64 fr, .int .i64 to, .int .i64 hi, .int .i64 lo] 45)) none := World.grownBy_alloc _ _ _
  obtain ⟨c0, -, -, -, -⟩ := scanCells (heap_alloc_new w (.cells #[.slice vo vn vc, .int .i64 fr, .int .i64 to, .int .i64 hi, .int .i64 lo] 45))
  have HT := hide (szIntSC _ (.slice vo vn vc) cs left ⟨RdI.st .i64 _ _ _ _ hv.1 G0, hv.2⟩ hl)
  have e1 : (if lenI cs ≤ left then (left : Int) - lenI cs else -1) = r := unhide HR
  rw [e1] at HT
  have hrr : r = -1 ∨ (0 ≤ r ∧ r ≤ 1048576) := by
    rw [← e1]
    split
    · right; omega
    · left; rfl
  have HG0 := hide G0
  clear hv G0 e1 HR
  unfold scV
  dsimp only
  go_enter Try.func22, Try.ntmps22
  go_wp2_with fail
  refine (unhide HT).mono ?_
  rintro e w1 ⟨rfl, rfl⟩
  rcases hrr with rfl | h
  · go_wp2
    go_ret
    exact ⟨rfl, unhide HG0⟩
  · have hd : decide (r < 0) = false := decide_eq_false (by omega)
    go_wp2
    go_ret
    exact ⟨rfl, unhide HG0⟩

end Go.Proofs.Ytfgglainjaplgaa

namespace Go.Proofs.Ytfgglainjaplgaa
open Go.RowKit Go.ChangeShapes Go.WideShapes Go.Deep

def OpenC {α : Type} (t : TypeId) (Q : World → Value → α → Prop) : Prop :=
  ∀ (H : Type) (enc : TypeId × Value → H) (W : World) (base : Nat) (spare : Nat → Bool) (held : Bool) (fuel : Nat) (u : Value) (x : DataW H × List MemPlace), DataW.trod enc Try.prog W base spare held fuel t [u] = some x → ∃ a, Q W u a

theorem open_row {α : Type} {Q : World → Value → α → Prop} {t e : TypeId} (ht : Try.prog.underlying t = some (.slice e)) (hc : Try.prog.cellsOf e = 1) (he : OpenC e Q) : OpenC t (RdZ (RdR Q)) := by
  intro H enc W base spare held fuel u x h
  rcases open_slice1 ht hc h with ⟨hcs, _⟩ | ⟨a, len, cap, m, n, V, D, Pl, hcs, _, hl, hm, hmm, _, hall⟩
  · simp at hcs
    subst hcs
    exact ⟨[], ⟨none, 0, rfl, fun i hi => absurd hi (by simp)⟩, by unfold maxLen; simp⟩
  · simp at hcs
    subst hcs
    have hlm : len ≤ m := by rw [hmm]; split <;> omega
    obtain ⟨b, off, spot⟩ := a
    have hex : ∀ i, i < len → ∃ q, Q W (V i) q := fun i hi => he H enc W base spare held n (V i) _ (hall i (by omega)).2
    rcases Nat.eq_zero_or_pos len with h0 | h0
    · subst h0
      exact ⟨[], ⟨some ⟨b, off, spot⟩, cap, rfl, fun i hi => absurd hi (by simp)⟩, by unfold maxLen; simp⟩
    · have hspot : spot = none := by simpa [Addr.add] using World.cell?_spot (hall 0 (by omega)).1
      subst hspot
      obtain ⟨q0, _⟩ := hex 0 h0
      have hch : ∀ i, ∃ q : α, i < len → Q W (V i) q := fun i => by
        by_cases hi : i < len
        · obtain ⟨q, hq⟩ := hex i hi; exact ⟨q, fun _ => hq⟩
        · exact ⟨q0, fun h => absurd h hi⟩
      obtain ⟨q, hq⟩ := Classical.axiomOfChoice hch
      refine ⟨(List.range len).map q, ⟨some ⟨b, off, none⟩, cap, by simp, fun i hi => ?_⟩, by simp; omega⟩
      have hi' : i < len := by simpa using hi
      refine ⟨b, off, V i, rfl, ?_, ?_⟩
      · have := (hall i (by omega)).1
        rw [Addr.add_lit] at this
        exact this
      · simp; exact hq i hi'

theorem open_intRow {t : TypeId} (ht : Try.prog.underlying t = some (.slice 3)) : OpenC t (RdZ (RdI .i64)) := by
  intro H enc W base spare held fuel u x h
  rcases open_ints ht Try.underlying3 (by kernel_rfl) h with ⟨hcs, _⟩ | ⟨a, l, c, zs, hcs, _, hl, hm, hz, _, hcell, _⟩
  · simp at hcs
    subst hcs
    exact ⟨[], ⟨none, 0, rfl, rfl, fun i hi => absurd hi (by simp)⟩, by unfold maxLen; simp⟩
  · simp at hcs
    subst hcs
    have hzl : l ≤ zs.length := by rw [hz]; split <;> omega
    have hzt : (zs.take l).length = l := by simp; omega
    refine ⟨zs.take l, ⟨some a, c, by rw [hzt], ?_⟩, by rw [hzt]; omega⟩
    rw [hzt]
    refine ⟨hzt, fun i hi => ?_⟩
    obtain ⟨b, off, spot⟩ := a
    have hc0 := hcell i (by omega)
    have hspot : spot = none := by simpa [Addr.add] using World.cell?_spot (hcell 0 (by omega))
    subst hspot
    refine ⟨b, off, rfl, ?_⟩
    rw [Addr.add_lit] at hc0
    have e : (zs.take l).getD i 0 = zs.getD i 0 := by simp [hi]
    rw [e]
    exact hc0

end Go.Proofs.Ytfgglainjaplgaa

namespace Go.Proofs.Ytfgglainjaplgaa
open Go.RowKit Go.ChangeShapes Go.WideShapes Go.Deep

set_option maxRecDepth 100000 in
theorem scan_cells {H : Type} {enc : TypeId × Value → H} {W : World} {base : Nat} {spare : Nat → Bool} {held : Bool} {fuel : Nat} {c0 c1 c2 c3 c4 : Value} {x : DataW H × List MemPlace}
    (h : DataW.trod enc Try.prog W base spare held fuel 45 [c0, c1, c2, c3, c4] = some x) :
    ∃ a : Scn, c1 = .int .i64 a.fr ∧ c2 = .int .i64 a.to ∧ c3 = .int .i64 a.hi ∧ c4 = .int .i64 a.lo ∧ RdZ (RdI .i64) W c0 a.cs := by
  have ci : Try.prog.cellsOf 3 = 1 := by kernel_rfl
  have cl : Try.prog.cellsOf 24 = 1 := by kernel_rfl
  obtain ⟨xs, n, _, _, hl, hlen, hfld⟩ := DataW.trod_struct Try.underlying45 h
  obtain ⟨y0, y1, y2, y3, y4, rfl⟩ : ∃ y0 y1 y2 y3 y4, xs = [y0, y1, y2, y3, y4] := by
    match xs, hlen with
    | [y0, y1, y2, y3, y4], _ => exact ⟨y0, y1, y2, y3, y4, rfl⟩
  have g0 := hfld 0 _ rfl
  have g1 := hfld 1 _ rfl
  have g2 := hfld 2 _ rfl
  have g3 := hfld 3 _ rfl
  have g4 := hfld 4 _ rfl
  simp [ci, cl] at g0 g1 g2 g3 g4
  obtain ⟨cs, hcs⟩ := open_intRow Try.underlying24 H enc W base spare held n c0 y0 g0
  obtain ⟨fr, e1, _, _⟩ := DataW.trod_int Try.underlying3 g1
  obtain ⟨to, e2, _, _⟩ := DataW.trod_int Try.underlying3 g2
  obtain ⟨hi, e3, _, _⟩ := DataW.trod_int Try.underlying3 g3
  obtain ⟨lo, e4, _, _⟩ := DataW.trod_int Try.underlying3 g4
  simp at e1 e2 e3 e4
  subst e1 e2 e3 e4
  exact ⟨⟨cs, fr, to, hi, lo⟩, rfl, rfl, rfl, rfl, hcs⟩

set_option maxRecDepth 100000 in
theorem scan_open {H : Type} {enc : TypeId × Value → H} {W : World} {base b0 : Nat} {spare : Nat → Bool} {held : Bool} {r : Reach} {v : Value} {d : DataW H} {ps : List MemPlace}
    (hv : Value.okWide Try.prog W r b0 45 v) (h : DataW.Trod enc Try.prog W base spare held 45 v d ps) : ∃ v0 a, v = scV v0 a ∧ RdScZ W (scV v0 a) a := by
  obtain ⟨cs, rfl, hsz⟩ := okWide_struct Try.underlying45 hv
  have hc5 : cs.size = 5 := by rw [hsz]; kernel_rfl
  obtain ⟨l⟩ := cs
  match l, hc5 with
  | [a0, a1, a2, a3, a4], _ =>
    obtain ⟨fuel, hf⟩ := h
    obtain ⟨a, rfl, rfl, rfl, rfl, hr⟩ := scan_cells (c0 := a0) hf
    exact ⟨a0, a, rfl, a0, rfl, hr⟩

end Go.Proofs.Ytfgglainjaplgaa

namespace Go.Proofs.Ytfgglainjaplgaa
open Go.RowKit

theorem markScan1 (vo : Option Addr) (m vc base : Nat) (xs : List Value) (fr to hi lo : Int) (k0 : Int) (w : World) (ho : w.ownsRow base 3 1 (.slice vo m vc) m xs) (hm : m ≤ 4194304) (h0 : 0 ≤ k0) (h1 : k0 ≤ 1073741824) :
    Calls Try.prog 28 #[.agg #[.slice vo m vc, .int .i64 fr, .int .i64 to, .int .i64 hi, .int .i64 lo], .int .i64 k0] w fun e w' => e = .returned (.int .i64 (k0 + m)) ∧ w.grownBy w' (Value.slice vo m vc).ownBlock := by
  have HM := hide (markIntS vo m vc base xs k0 _ (ho.alloc (.cells #[.slice vo m vc, .int .i64 fr, .int .i64 to, .int .i64 hi, .int .i64 lo] 26)) hm h0 h1)
  clear ho
  go_enter Try.func28, Try.ntmps28
  go_wp2_with fail
  refine (unhide HM).mono ?_
  rintro e w2 ⟨rfl, _, g2⟩
  have HG := hide (grown_trans (World.grownBy_alloc w (.cells #[.slice vo m vc, .int .i64 fr, .int .i64 to, .int .i64 hi, .int .i64 lo] 26) _) g2)
  clear g2 HM
  go_wp2
  go_ret
  exact ⟨rfl, unhide HG⟩

end Go.Proofs.Ytfgglainjaplgaa

namespace Go.Proofs.Ytfgglainjaplgaa
open Go.RowKit

theorem scan_form {w : World} {v : Value} {cs : List Int} {fr to hi lo : Int} (hx : RdScZ w (scV v ⟨cs, fr, to, hi, lo⟩) ⟨cs, fr, to, hi, lo⟩) : ∃ xo m xc, v = .slice xo m xc ∧ Rd .i64 w xo m cs ∧ m ≤ maxLen := by
  obtain ⟨v', e, h, hm⟩ := hx
  obtain ⟨xo, xc, e2, hr⟩ := h
  have : v = v' := by simpa [scV] using e
  exact ⟨xo, _, xc, this.trans e2, hr, hm⟩

theorem szScan1 (xo : Option Addr) (m xc : Nat) (cs : List Int) (fr to hi lo : Int) (w : World) (hr : Rd .i64 w xo m cs) (hm : m ≤ maxLen) (r : Int) (HR : Hid ((if m ≤ 1048576 then (1048576 : Int) - m else -1) = r)) :
    Calls Try.prog 22 #[.agg #[.slice xo m xc, .int .i64 fr, .int .i64 to, .int .i64 hi, .int .i64 lo], .int .i64 1048576] w fun e w' => e = .returned (.int .i64 r) ∧ w.grownBy w' none := by
  have hl : cs.length = m := hr.1
  subst hl
  exact szScanC w _ ⟨cs, fr, to, hi, lo⟩ 1048576 ⟨.slice xo cs.length xc, rfl, ⟨xo, xc, rfl, hr⟩, hm⟩ (Nat.le_refl _) r HR

theorem toScan1 (xo : Option Addr) (m xc : Nat) (cs : List Int) (fr to hi lo : Int) (w : World) (hr : Rd .i64 w xo m cs) (hm : m ≤ 1048576) :
    Calls Try.prog 24 #[.agg #[.slice xo m xc, .int .i64 fr, .int .i64 to, .int .i64 hi, .int .i64 lo]] w fun e w' => ∃ vo vc, e = .returned (.agg #[.slice vo m vc, .int .i64 fr, .int .i64 to, .int .i64 hi, .int .i64 lo]) ∧ w'.ownsRow 0 3 1 (.slice vo m vc) m (cs.map (Value.int .i64)) ∧ (∀ k, Value.ownBlock (.slice vo m vc) = some k → w.heap.size ≤ k ∧ k < w'.heap.size) ∧ w.grownBy w' none := by
  have hl : cs.length = m := hr.1
  subst hl
  refine (toScanC w _ ⟨cs, fr, to, hi, lo⟩ ⟨.slice xo cs.length xc, rfl, xo, xc, rfl, hr⟩ hm).mono ?_
  rintro e w' ⟨u, F, rfl, ⟨v, rfl, ho⟩, -, hlo, hg⟩
  obtain ⟨vo, vc, rfl⟩ := own_form ho.1
  exact ⟨vo, vc, rfl, ho.1, fun k hk => ⟨hlo k (by rw [ho.2]; exact mem_blk.2 hk), (ho.1.lt k hk).2⟩, hg⟩

theorem eqScan1 (xo yo : Option Addr) (m xc yc : Nat) (cs : List Int) (fr to hi lo : Int) (w : World) (hx : Rd .i64 w xo m cs) (hy : Rd .i64 w yo m cs) (hm : m ≤ 1048576) :
    Calls Try.prog 26 #[.agg #[.slice xo m xc, .int .i64 fr, .int .i64 to, .int .i64 hi, .int .i64 lo], .agg #[.slice yo m yc, .int .i64 fr, .int .i64 to, .int .i64 hi, .int .i64 lo]] w fun e w' => e = .returned (.bool true) ∧ w.grownBy w' none := by
  have hl : cs.length = m := hx.1
  subst hl
  exact eqScanC w _ _ ⟨cs, fr, to, hi, lo⟩ ⟨.slice xo cs.length xc, rfl, xo, xc, rfl, hx⟩ ⟨.slice yo cs.length yc, rfl, yo, yc, rfl, hy⟩ hm

/-- A scan that came in, in its box. -/
structure In1s (w W : World) (bs : Array Value) : Prop where
  sb : W.heap[w.heap.size]? = some (.cells bs 45 (0, 0))
  grown : w.grownBy W none
theorem In1s.new {w W W' : World} {bs : Array Value} (h : In1s w W bs) (g : W.grownBy W' none) : In1s w W' bs := ⟨grown_atT g h.sb (by simp), grown_trans h.grown g⟩
theorem In1s.size {w W : World} {bs : Array Value} (h : In1s w W bs) : w.heap.size + 1 ≤ W.heap.size := (Array.getElem?_eq_some_iff.1 h.sb).1
theorem In1s.wrR {w W W' : World} {bs : Array Value} {row : Option Nat} (h : In1s w W bs) (g : W.grownBy W' row) (hF : ∀ x, row = some x → w.heap.size + 1 ≤ x) : In1s w W' bs :=
  ⟨grown_atT g h.sb (fun e => by have := hF _ e; omega), grown_new h.grown g (fun x hx => by have := hF x hx; omega)⟩
theorem In1s.start (w : World) (bs : Array Value) : In1s w (w.alloc (.cells bs 45)) bs := ⟨heap_alloc_new w _, World.grownBy_alloc _ _ _⟩

end Go.Proofs.Ytfgglainjaplgaa

namespace Go.Proofs.Ytfgglainjaplgaa
open Go.RowKit

theorem between (n lo hi : Int) (t : Bool) (ht : Hid (decide (lo ≤ n ∧ n ≤ hi) = t)) (w : World) :
    Calls Try.prog 36 #[.int .i64 n, .int .i64 lo, .int .i64 hi] w fun e w' => e = .returned (.bool t) ∧ w' = w := by
  by_cases h1 : lo ≤ n
  · by_cases h2 : n ≤ hi
    · have e : t = true := by rw [← unhide ht]; simp [h1, h2]
      subst e
      go_enter Try.func36, Try.ntmps36
      go_wp2
      go_ret
      exact ⟨by simp, rfl⟩
    · have e : t = false := by rw [← unhide ht]; simp [h2]
      subst e
      go_enter Try.func36, Try.ntmps36
      go_wp2
      go_ret
      exact ⟨by simp, rfl⟩
  · have e : t = false := by rw [← unhide ht]; simp [h1]
    subst e
    have hd : decide (lo ≤ n) = false := by simpa using h1
    go_enter Try.func36, Try.ntmps36
    go_wp2
    go_ret
    exact ⟨rfl, rfl⟩

end Go.Proofs.Ytfgglainjaplgaa

namespace Go.Proofs.Ytfgglainjaplgaa
open Go.RowKit

def levB (lo hi : Int) (zs : List Int) : Bool := decide (zs.length = 64) && zs.all (fun n => decide (lo ≤ n ∧ n ≤ hi))

theorem lev_all {lo hi : Int} {zs : List Int} (hz : zs.length = 64) (h : ∀ j, j < 64 → lo ≤ zs.getD j 0 ∧ zs.getD j 0 ≤ hi) : levB lo hi zs = true := by
  simp only [levB, hz, decide_true, Bool.true_and, List.all_eq_true, decide_eq_true_eq]
  intro n hn
  obtain ⟨i, hi', rfl⟩ := List.getElem_of_mem hn
  have h2 : zs.getD i 0 = zs[i] := by simp [hi']
  rw [← h2]
  exact h i (by omega)
theorem lev_at {lo hi : Int} {zs : List Int} (h : levB lo hi zs = true) : zs.length = 64 ∧ ∀ j, j < 64 → lo ≤ zs.getD j 0 ∧ zs.getD j 0 ≤ hi := by
  simp only [levB, Bool.and_eq_true, decide_eq_true_eq, List.all_eq_true] at h
  refine ⟨h.1, fun j hj => ?_⟩
  have hj' : j < zs.length := by omega
  have h2 : zs.getD j 0 = zs[j] := by simp [hj']
  rw [h2]
  exact h.2 _ (List.getElem_mem hj')

set_option maxHeartbeats 800000 in
theorem specLev (ao : Option Addr) (n cap : Nat) (zs : List Int) (lo hi : Int) (w : World) (hr : Rd .i64 w ao n zs) (b : Bool) (hb : Hid (levB lo hi zs = b)) :
    Calls Try.prog 54 #[.slice ao n cap, .int .i64 lo, .int .i64 hi] w fun e w' => e = .returned (.bool b) ∧ w.grownBy w' none := by
  by_cases h : n = 64
  · subst h
    have HR := hide hr
    have HZ := hide hr.1
    clear hr
    go_enter Try.func54, Try.ntmps54
    go_wp2
    go_loopw [7] (fun i wr => ∃ k : Nat, k ≤ 64 ∧ i = .int .i64 k ∧ (Hid (∀ j, j < k → lo ≤ zs.getD j 0 ∧ zs.getD j 0 ≤ hi)) ∧ w.grownBy wr none) (fun i _ => 64 - (intOf i).toNat)
    case atStart => exact ⟨0, Nat.zero_le _, rfl, fun j hj => absurd hj (by omega), World.grownBy.refl _ _⟩
    case round =>
      obtain ⟨k, hk, rfl, HK, hgk⟩ := hrel
      by_cases hlt : k < 64
      · obtain ⟨bb, off, rfl, hc⟩ := (unhide HR).2 k hlt
        have hcell := hgk.cell hc (by simp)
        obtain ⟨t, HT⟩ : ∃ t, Hid (decide (lo ≤ zs.getD k 0 ∧ zs.getD k 0 ≤ hi) = t) := ⟨_, rfl⟩
        clear hc
        obtain ⟨z, HX⟩ : ∃ z, Hid (zs.getD k 0 = z) := ⟨_, rfl⟩
        rw [unhide HX] at hcell HT
        go_wp2_with fail
        refine (between z lo hi t HT wr).mono ?_
        rintro e w2 ⟨rfl, rfl⟩
        cases t with
        | true =>
          go_wp2
          go_roundw
          case rel =>
            refine ⟨k + 1, by omega, by go_num, fun j hj => ?_, hgk⟩
            by_cases e : j = k
            · subst e; rw [unhide HX]; have := unhide HT; simpa using this
            · exact unhide HK j (by omega)
          case measure => simp [intOf]; omega
        | false =>
          have hf : b = false := by
            cases hbb : b with
            | false => rfl
            | true =>
              have h1 := (lev_at ((unhide hb).trans hbb)).2 k hlt
              rw [unhide HX] at h1
              have := unhide HT
              simp at this
              omega
          subst hf
          go_wp2
          go_ret
          exact ⟨rfl, hgk⟩
      · obtain rfl : k = 64 := by omega
        have ht : b = true := by rw [← unhide hb]; exact lev_all (unhide HZ) (unhide HK)
        subst ht
        go_wp2
        go_ret
        exact ⟨rfl, hgk⟩
  · have hb' : b = false := by rw [← unhide hb]; simp [levB, hr.1, h]
    subst hb'
    have hne : ((n : Int) != 64) = true := by simp; omega
    clear hr hb
    go_enter Try.func54, Try.ntmps54
    go_wp2
    go_ret
    exact ⟨rfl, World.grownBy.refl _ _⟩

end Go.Proofs.Ytfgglainjaplgaa

namespace Go.Proofs.Ytfgglainjaplgaa
open Go.RowKit

def compB (c : Nat → Int) : Bool := decide (0 ≤ c 0 ∧ c 0 ≤ 255) && (decide (1 ≤ c 1 ∧ c 1 ≤ 4) && (decide (1 ≤ c 2 ∧ c 2 ≤ 4) && decide (0 ≤ c 3 ∧ c 3 ≤ 3)))
/-- Whether one of the first m components has the Id of component k. -/
def idIn (C : Nat → Nat → Int) (k : Nat) : Nat → Bool
  | 0 => false
  | m + 1 => idIn C k m || (C m 0 == C k 0)
def okTo (C : Nat → Nat → Int) : Nat → Bool
  | 0 => true
  | k + 1 => okTo C k && (compB (C k) && !idIn C k k)
def sumHV (C : Nat → Nat → Int) : Nat → Int
  | 0 => 0
  | k + 1 => sumHV C k + C k 1 * C k 2
def headB (p wd ht rs : Int) : Bool := (p == 8 || p == 12) && (decide (1 ≤ wd ∧ wd ≤ 256) && (decide (1 ≤ ht ∧ ht ≤ 256) && (decide (wd * ht ≤ 16384) && decide (0 ≤ rs ∧ rs ≤ 255))))
def compsB (n : Nat) (C : Nat → Nat → Int) : Bool := decide (1 ≤ (n : Int) ∧ (n : Int) ≤ 4) && (okTo C n && decide (sumHV C n ≤ 10))
def frameB (p wd ht rs : Int) (n : Nat) (C : Nat → Nat → Int) : Bool := headB p wd ht rs && compsB n C

theorem okTo_false {C : Nat → Nat → Int} {k : Nat} (h : okTo C k = false) : ∀ n, k ≤ n → okTo C n = false := by
  intro n hn
  induction n with
  | zero => obtain rfl : k = 0 := by omega
            exact h
  | succ n ih =>
    by_cases e : k = n + 1
    · subst e; exact h
    · simp [okTo, ih (by omega)]
theorem okTo_true {C : Nat → Nat → Int} {n : Nat} (h : okTo C n = true) : ∀ k, k ≤ n → okTo C k = true := by
  intro k hk
  cases hc : okTo C k with
  | true => rfl
  | false => rw [okTo_false hc n hk] at h; exact h
theorem compB_bounds {c : Nat → Int} (h : compB c = true) : (0 ≤ c 0 ∧ c 0 ≤ 255) ∧ (1 ≤ c 1 ∧ c 1 ≤ 4) ∧ (1 ≤ c 2 ∧ c 2 ≤ 4) ∧ 0 ≤ c 3 ∧ c 3 ≤ 3 := by
  simpa [compB] using h
theorem mul_small {a b : Int} (ha : 1 ≤ a ∧ a ≤ 4) (hb : 1 ≤ b ∧ b ≤ 4) : 1 ≤ a * b ∧ a * b ≤ 16 := by
  obtain ⟨a0, a1⟩ := ha
  have : a = 1 ∨ a = 2 ∨ a = 3 ∨ a = 4 := by omega
  rcases this with rfl | rfl | rfl | rfl <;> omega
theorem mul_side {a b : Int} (ha : 1 ≤ a ∧ a ≤ 256) (hb : 1 ≤ b ∧ b ≤ 256) : 1 ≤ a * b ∧ a * b ≤ 65536 := by
  obtain ⟨a0, a1⟩ := ha
  obtain ⟨b0, b1⟩ := hb
  have h1 : 1 * 1 ≤ a * b := Int.mul_le_mul a0 b0 (by omega) (by omega)
  have h2 : a * b ≤ 256 * 256 := Int.mul_le_mul a1 b1 (by omega) (by omega)
  omega
theorem sumHV_bounds {C : Nat → Nat → Int} : ∀ k, okTo C k = true → 0 ≤ sumHV C k ∧ sumHV C k ≤ 16 * k
  | 0, _ => by simp [sumHV]
  | k + 1, h => by
    simp only [okTo, Bool.and_eq_true] at h
    have ih := sumHV_bounds k h.1
    obtain ⟨_, h1, h2, _⟩ := compB_bounds h.2.1
    have := mul_small h1 h2
    simp only [sumHV]
    omega
theorem idIn_congr {C D : Nat → Nat → Int} {k : Nat} (hk : C k = D k) : ∀ m, (∀ i, i < m → C i = D i) → idIn C k m = idIn D k m
  | 0, _ => rfl
  | m + 1, h => by simp only [idIn]; rw [idIn_congr hk m (fun i hi => h i (by omega)), h m (by omega), hk]
theorem okTo_congr {C D : Nat → Nat → Int} : ∀ k, (∀ i, i < k → C i = D i) → okTo C k = okTo D k
  | 0, _ => rfl
  | k + 1, h => by
    simp only [okTo]
    rw [okTo_congr k (fun i hi => h i (by omega)), h k (by omega), idIn_congr (h k (by omega)) k (fun i hi => h i (by omega))]
theorem sumHV_congr {C D : Nat → Nat → Int} : ∀ k, (∀ i, i < k → C i = D i) → sumHV C k = sumHV D k
  | 0, _ => rfl
  | k + 1, h => by simp only [sumHV]; rw [sumHV_congr k (fun i hi => h i (by omega)), h k (by omega)]
theorem compsB_congr {C D : Nat → Nat → Int} {n : Nat} (h : n ≤ 4 → ∀ i, i < n → C i = D i) : compsB n C = compsB n D := by
  by_cases hn : n ≤ 4
  · simp only [compsB]; rw [okTo_congr n (h hn), sumHV_congr n (h hn)]
  · have e : decide (1 ≤ (n : Int) ∧ (n : Int) ≤ 4) = false := by simp; omega
    simp only [compsB, e, Bool.false_and]
theorem idIn_true {C : Nat → Nat → Int} {k m : Nat} (h : (C m 0 == C k 0) = true) : ∀ n, m < n → idIn C k n = true := by
  intro n hn
  induction n with
  | zero => omega
  | succ n ih =>
    by_cases e : m = n
    · subst e; simp only [idIn, h, Bool.or_true]
    · simp only [idIn, ih (by omega), Bool.true_or]
theorem headB_facts {p wd ht rs : Int} (h : headB p wd ht rs = true) : (p = 8 ∨ p = 12) ∧ (1 ≤ wd ∧ wd ≤ 256) ∧ (1 ≤ ht ∧ ht ≤ 256) ∧ wd * ht ≤ 16384 ∧ 0 ≤ rs ∧ rs ≤ 255 := by
  simpa [headB] using h

end Go.Proofs.Ytfgglainjaplgaa

namespace Go.Proofs.Ytfgglainjaplgaa

/-- The greatest of the numbers j of the first k components, at least a. -/
def mostA (a : Int) (C : Nat → Nat → Int) (j : Nat) : Nat → Int
  | 0 => a
  | k + 1 => max (mostA a C j k) (C k j)
/-- n by d, rounded up. -/
def upI (n d : Int) : Int := (n + d - 1).tdiv d

theorem upI_pos {n d : Int} (hn : 1 ≤ n) (hd : 1 ≤ d) : 1 ≤ upI n d ∧ upI n d ≤ n := by
  unfold upI
  rw [Int.tdiv_eq_ediv_of_nonneg (by omega)]
  constructor
  · exact (Int.le_ediv_iff_mul_le (by omega)).2 (by omega)
  · refine Int.le_of_lt_add_one ((Int.ediv_lt_iff_lt_mul (by omega)).2 ?_)
    have h1 : 0 ≤ (n - 1) * (d - 1) := Int.mul_nonneg (by omega) (by omega)
    have e : (n + 1) * d = (n - 1) * (d - 1) + n + 2 * d - 1 := by
      rw [Int.add_mul, Int.sub_mul, Int.mul_sub, Int.mul_sub]; omega
    omega

theorem upI_eight {n : Int} (h0 : 1 ≤ n) (h1 : n ≤ 8192) : 1 ≤ upI n 8 ∧ upI n 8 ≤ 1024 := by
  unfold upI
  rw [Int.tdiv_eq_ediv_of_nonneg (by omega)]
  omega

theorem mostA_congr {a : Int} {C D : Nat → Nat → Int} {j : Nat} : ∀ k, (∀ i, i < k → C i = D i) → mostA a C j k = mostA a D j k
  | 0, _ => rfl
  | k + 1, h => by simp only [mostA]; rw [mostA_congr k (fun i hi => h i (by omega)), h k (by omega)]
theorem mostA_le {a : Int} {C : Nat → Nat → Int} {j : Nat} {m : Int} (ha : a ≤ m) : ∀ k, (∀ i, i < k → C i j ≤ m) → mostA a C j k ≤ m
  | 0, _ => ha
  | k + 1, h => by simp only [mostA]; have := mostA_le ha k (fun i hi => h i (by omega)); have := h k (by omega); omega
theorem mostA_ge {a : Int} {C : Nat → Nat → Int} {j : Nat} : ∀ k, a ≤ mostA a C j k
  | 0 => Int.le_refl _
  | k + 1 => by simp only [mostA]; have := mostA_ge (a := a) (C := C) (j := j) k; omega
theorem mostA_at {a : Int} {C : Nat → Nat → Int} {j : Nat} : ∀ k i, i < k → C i j ≤ mostA a C j k
  | k + 1, i, h => by
    simp only [mostA]
    by_cases e : i = k
    · subst e; omega
    · have := mostA_at (a := a) (C := C) (j := j) k i (by omega); omega
/-- From 0 or from 1 on: the same where a component has at least 1. -/
theorem mostA_one {C : Nat → Nat → Int} {j : Nat} : ∀ k, 1 ≤ k → (∀ i, i < k → 1 ≤ C i j) → mostA 0 C j k = mostA 1 C j k
  | 1, _, h => by simp only [mostA]; have := h 0 (by omega); omega
  | k + 2, _, h => by
    have ih := mostA_one (k + 1) (by omega) (fun i hi => h i (by omega))
    show max (mostA 0 C j (k + 1)) (C (k + 1) j) = max (mostA 1 C j (k + 1)) (C (k + 1) j)
    rw [ih]

theorem okTo_comp {C : Nat → Nat → Int} : ∀ {n : Nat}, okTo C n = true → ∀ i, i < n → compB (C i) = true
  | n + 1, h, i, hi => by
    simp only [okTo, Bool.and_eq_true] at h
    by_cases e : i = n
    · subst e; exact h.2.1
    · exact okTo_comp h.1 i (by omega)

/-- What is so of a frame that is ok. -/
structure Geo (wd ht : Int) (n : Nat) (C : Nat → Nat → Int) (mh mv : Int) : Prop where
  n1 : 1 ≤ n
  n4 : n ≤ 4
  wd : 1 ≤ wd ∧ wd ≤ 256
  ht : 1 ≤ ht ∧ ht ≤ 256
  ch : ∀ i, i < n → 1 ≤ C i 1 ∧ C i 1 ≤ 4
  cv : ∀ i, i < n → 1 ≤ C i 2 ∧ C i 2 ≤ 4
  h0 : mostA 0 C 1 n = mh
  h1 : mostA 1 C 1 n = mh
  v0 : mostA 0 C 2 n = mv
  v1 : mostA 1 C 2 n = mv
  hb : 1 ≤ mh ∧ mh ≤ 4
  vb : 1 ≤ mv ∧ mv ≤ 4

theorem geo_of {p wd ht rs : Int} {n : Nat} {C : Nat → Nat → Int} (h : frameB p wd ht rs n C = true) : Geo wd ht n C (mostA 1 C 1 n) (mostA 1 C 2 n) := by
  simp only [frameB, Bool.and_eq_true] at h
  obtain ⟨hh, hc⟩ := h
  obtain ⟨_, hw, hht, _, _⟩ := headB_facts hh
  simp only [compsB, Bool.and_eq_true, decide_eq_true_eq] at hc
  obtain ⟨hn, hok, _⟩ := hc
  have ch : ∀ i, i < n → 1 ≤ C i 1 ∧ C i 1 ≤ 4 := fun i hi => (compB_bounds (okTo_comp hok i hi)).2.1
  have cv : ∀ i, i < n → 1 ≤ C i 2 ∧ C i 2 ≤ 4 := fun i hi => (compB_bounds (okTo_comp hok i hi)).2.2.1
  exact ⟨by omega, by omega, hw, hht, ch, cv, mostA_one n (by omega) (fun i hi => (ch i hi).1), rfl, mostA_one n (by omega) (fun i hi => (cv i hi).1), rfl,
    ⟨mostA_ge n, mostA_le (by omega) n (fun i hi => (ch i hi).2)⟩, ⟨mostA_ge n, mostA_le (by omega) n (fun i hi => (cv i hi).2)⟩⟩
theorem Geo.congr {wd ht : Int} {n : Nat} {C D : Nat → Nat → Int} {mh mv : Int} (h : Geo wd ht n C mh mv) (e : ∀ i, i < n → D i = C i) : Geo wd ht n D mh mv :=
  ⟨h.n1, h.n4, h.wd, h.ht, fun i hi => by rw [e i hi]; exact h.ch i hi, fun i hi => by rw [e i hi]; exact h.cv i hi, (mostA_congr n e).trans h.h0, (mostA_congr n e).trans h.h1, (mostA_congr n e).trans h.v0, (mostA_congr n e).trans h.v1, h.hb, h.vb⟩

/-- A side times a share of it. -/
theorem mul_share {a b : Int} (ha : 1 ≤ a ∧ a ≤ 1024) (hb : 1 ≤ b ∧ b ≤ 4) : 1 ≤ a * b ∧ a * b ≤ 4096 := by
  obtain ⟨b0, b1⟩ := hb
  have : b = 1 ∨ b = 2 ∨ b = 3 ∨ b = 4 := by omega
  rcases this with rfl | rfl | rfl | rfl <;> omega

end Go.Proofs.Ytfgglainjaplgaa

namespace Go.Proofs.Ytfgglainjaplgaa

/-- The first k numbers are components of n, rising. -/
def compsTo (n : Nat) (cs : List Int) : Nat → Bool
  | 0 => true
  | k + 1 => compsTo n cs k && (decide (0 ≤ cs.getD k 0 ∧ cs.getD k 0 ≤ (n : Int) - 1) && decide (k = 0 ∨ cs.getD (k - 1) 0 < cs.getD k 0))
def okComps (n : Nat) (cs : List Int) : Bool := compsTo n cs cs.length && decide (0 < cs.length)

theorem compsTo_false {n : Nat} {cs : List Int} {k : Nat} (h : compsTo n cs k = false) : ∀ m, k ≤ m → compsTo n cs m = false := by
  intro m hm
  induction m with
  | zero => obtain rfl : k = 0 := by omega
            exact h
  | succ m ih =>
    by_cases e : k = m + 1
    · subst e; exact h
    · simp [compsTo, ih (by omega)]
theorem compsTo_true {n : Nat} {cs : List Int} {m : Nat} (h : compsTo n cs m = true) : ∀ k, k ≤ m → compsTo n cs k = true := by
  intro k hk
  cases hc : compsTo n cs k with
  | true => rfl
  | false => rw [compsTo_false hc m hk] at h; exact h
theorem compsTo_at {n : Nat} {cs : List Int} {m : Nat} (h : compsTo n cs m = true) (k : Nat) (hk : k < m) : (0 ≤ cs.getD k 0 ∧ cs.getD k 0 ≤ (n : Int) - 1) ∧ (k = 0 ∨ cs.getD (k - 1) 0 < cs.getD k 0) := by
  have := compsTo_true h (k + 1) (by omega)
  simp only [compsTo, Bool.and_eq_true, decide_eq_true_eq] at this
  exact this.2
theorem compsTo_ge {n : Nat} {cs : List Int} {m : Nat} (h : compsTo n cs m = true) : ∀ k, k < m → (k : Int) ≤ cs.getD k 0
  | 0, hk => (compsTo_at h 0 hk).1.1
  | k + 1, hk => by
    have ih := compsTo_ge h k (by omega)
    rcases (compsTo_at h (k + 1) hk).2 with e | e
    · omega
    · simp only [Nat.add_sub_cancel] at e; omega
theorem compsTo_len {n : Nat} {cs : List Int} {m : Nat} (h : compsTo n cs m = true) : m ≤ n := by
  cases m with
  | zero => omega
  | succ m =>
    have h1 := compsTo_ge h m (by omega)
    have h2 := (compsTo_at h m (by omega)).1.2
    omega

/-- A place: a component, a row, a column. -/
abbrev Pl := Int × Int × Int
/-- z places of a row from a column on. -/
def zTo (c a b : Int) : Nat → List Pl
  | 0 => []
  | z + 1 => zTo c a b z ++ [(c, a, b + z)]
/-- y rows of H places. -/
def yTo (c a b : Int) (H : Nat) : Nat → List Pl
  | 0 => []
  | y + 1 => yTo c a b H y ++ zTo c (a + y) b H
/-- A unit's places of its first i components. -/
def iTo (C : Nat → Nat → Int) (cs : List Int) (r k : Nat) : Nat → List Pl
  | 0 => []
  | i + 1 => iTo C cs r k i ++ yTo (cs.getD i 0) (r * C (cs.getD i 0).toNat 2) (k * C (cs.getD i 0).toNat 1) (C (cs.getD i 0).toNat 1).toNat (C (cs.getD i 0).toNat 2).toNat
def kTo (C : Nat → Nat → Int) (cs : List Int) (r : Nat) : Nat → List (List Pl)
  | 0 => []
  | k + 1 => kTo C cs r k ++ [iTo C cs r k cs.length]
def rTo (C : Nat → Nat → Int) (cs : List Int) (W : Nat) : Nat → List (List Pl)
  | 0 => []
  | r + 1 => rTo C cs W r ++ kTo C cs r W
def k1To (c : Int) (r : Nat) : Nat → List (List Pl)
  | 0 => []
  | k + 1 => k1To c r k ++ [[(c, (r : Int), (k : Int))]]
def r1To (c : Int) (W : Nat) : Nat → List (List Pl)
  | 0 => []
  | r + 1 => r1To c W r ++ k1To c r W
/-- The units of an order. -/
def unitsG (wd ht : Int) (n : Nat) (C : Nat → Nat → Int) (cs : List Int) : List (List Pl) :=
  if cs.length = 1 then r1To (cs.getD 0 0) (upI (upI (wd * C (cs.getD 0 0).toNat 1) (mostA 1 C 1 n)) 8).toNat (upI (upI (ht * C (cs.getD 0 0).toNat 2) (mostA 1 C 2 n)) 8).toNat
  else rTo C cs (upI wd (8 * mostA 1 C 1 n)).toNat (upI ht (8 * mostA 1 C 2 n)).toNat
/-- The order of a frame and components, whatever they are. -/
def orderG (b : Bool) (wd ht : Int) (n : Nat) (C : Nat → Nat → Int) (cs : List Int) : List (List Pl) := if b && okComps n cs then unitsG wd ht n C cs else []

theorem zTo_len (c a b : Int) : ∀ z, (zTo c a b z).length = z
  | 0 => rfl
  | z + 1 => by simp [zTo, zTo_len c a b z]
theorem yTo_len (c a b : Int) (H : Nat) : ∀ y, (yTo c a b H y).length = y * H
  | 0 => by simp [yTo]
  | y + 1 => by simp [yTo, yTo_len c a b H y, zTo_len, Nat.succ_mul]
theorem kTo_len (C : Nat → Nat → Int) (cs : List Int) (r : Nat) : ∀ k, (kTo C cs r k).length = k
  | 0 => rfl
  | k + 1 => by simp [kTo, kTo_len C cs r k]
theorem rTo_len (C : Nat → Nat → Int) (cs : List Int) (W : Nat) : ∀ r, (rTo C cs W r).length = r * W
  | 0 => by simp [rTo]
  | r + 1 => by simp [rTo, rTo_len C cs W r, kTo_len, Nat.succ_mul]
theorem k1To_len (c : Int) (r : Nat) : ∀ k, (k1To c r k).length = k
  | 0 => rfl
  | k + 1 => by simp [k1To, k1To_len c r k]
theorem r1To_len (c : Int) (W : Nat) : ∀ r, (r1To c W r).length = r * W
  | 0 => by simp [r1To]
  | r + 1 => by simp [r1To, r1To_len c W r, k1To_len, Nat.succ_mul]

/-- The cells of places. -/
def plCells : List Pl → List Value
  | [] => []
  | p :: ps => .int .i64 p.1 :: .int .i64 p.2.1 :: .int .i64 p.2.2 :: plCells ps
theorem plCells_app : ∀ (xs ys : List Pl), plCells (xs ++ ys) = plCells xs ++ plCells ys
  | [], ys => rfl
  | p :: xs, ys => by simp [plCells, plCells_app xs ys]
theorem plCells_len : ∀ xs : List Pl, (plCells xs).length = xs.length * 3
  | [] => rfl
  | p :: xs => by simp [plCells, plCells_len xs]; omega
theorem plCells_one : ∀ xs : List Pl, ∀ v ∈ plCells xs, v.oneCell' = true
  | [], v, h => by simp [plCells] at h
  | p :: xs, v, h => by
    simp [plCells] at h
    rcases h with rfl | rfl | rfl | h
    · rfl
    · rfl
    · rfl
    · exact plCells_one xs v h
theorem plCells_at : ∀ (xs : List Pl) (i : Nat) (h : i < xs.length), (plCells xs)[i * 3]? = some (.int .i64 (xs[i].1)) ∧ (plCells xs)[i * 3 + 1]? = some (.int .i64 (xs[i].2.1)) ∧ (plCells xs)[i * 3 + 2]? = some (.int .i64 (xs[i].2.2))
  | p :: xs, 0, _ => ⟨rfl, rfl, rfl⟩
  | p :: xs, i + 1, h => by
    have ih := plCells_at xs i (by simpa using h)
    simp only [plCells, Nat.succ_mul]
    refine ⟨?_, ?_, ?_⟩
    · simpa using ih.1
    · have e : i * 3 + 3 + 1 = (i * 3 + 1) + 1 + 1 + 1 := by omega
      rw [e]; simpa using ih.2.1
    · have e : i * 3 + 3 + 2 = (i * 3 + 2) + 1 + 1 + 1 := by omega
      rw [e]; simpa using ih.2.2

end Go.Proofs.Ytfgglainjaplgaa

namespace Go.Proofs.Ytfgglainjaplgaa
open Go.RowKit

theorem wpList_load_row {P : Program} {ops : Array Oper} {rest : List Oper} {op : Oper} {a : Act} {w : World} {Q : Exit → Act → World → Prop} (hw : Region.wanted op (yielded ops a.tmps) = true) (ty : TypeId) (x : Operand) (ho : op.op = .load ty x)
    (b : Nat) (hx : a.eval x = .pointer (some ⟨b, 0, none⟩)) (X : Array Value) (t : TypeId) (hb : w.heap[b]? = some (.cells X t (0, 0))) (d : TypeDesc)
    (hu : P.underlying ty = some d) (hd : d.isRow = true) (hi : (P.info? ty).map (·.size) = some X.size)
    (h : wpList P ops Q rest (a.put op.dst (.agg X)) w) : wpList P ops Q (op :: rest) a w :=
  BigFrame.wpList_want hw fun _ hK => wp_load_mid ty x ho b 0 hx X.toList d (fun j v hv => by rw [cell_of_row w b (0 + j) X t (0, 0) hb]; simpa using hv) hu hd (by simpa using hi) (hK _ _ (by simpa using h))

/-- The cells of a frame with its components inside. -/
structure Fx (X : Array Value) (p wd ht rs n : Int) (C : Nat → Nat → Int) : Prop where
  size : X.size = 21
  c0 : X[0]? = some (.int .i64 p)
  c1 : X[1]? = some (.int .i64 wd)
  c2 : X[2]? = some (.int .i64 ht)
  c3 : X[3]? = some (.int .i64 rs)
  c4 : X[4]? = some (.int .i64 n)
  comp : ∀ i j, i < 4 → j < 4 → X[5 + i * 4 + j]? = some (.int .i64 (C i j))

theorem inRange (n lo hi : Int) (t : Bool) (ht : Hid (decide (lo ≤ n ∧ n ≤ hi) = t)) (w : World) :
    Calls Try.prog 78 #[.int .i64 n, .int .i64 lo, .int .i64 hi] w fun e w' => e = .returned (.bool t) ∧ w = w' := by
  by_cases h1 : lo ≤ n
  · by_cases h2 : n ≤ hi
    · have e : t = true := by rw [← unhide ht]; simp [h1, h2]
      subst e
      go_enter Try.func78, Try.ntmps78
      go_wp2
      go_ret
      exact ⟨by simp, rfl⟩
    · have e : t = false := by rw [← unhide ht]; simp [h2]
      subst e
      go_enter Try.func78, Try.ntmps78
      go_wp2
      go_ret
      exact ⟨by simp, rfl⟩
  · have e : t = false := by rw [← unhide ht]; simp [h1]
    subst e
    have hd : decide (lo ≤ n) = false := by simpa using h1
    go_enter Try.func78, Try.ntmps78
    go_wp2
    go_ret
    exact ⟨rfl, rfl⟩

end Go.Proofs.Ytfgglainjaplgaa

namespace Go.Proofs.Ytfgglainjaplgaa
open Go.RowKit

/-- The cells of component i, where the frame lies. -/
theorem fx_cell {X : Array Value} {p wd ht rs n : Int} {C : Nat → Nat → Int} (hX : Fx X p wd ht rs n C) {w : World} {g : Nat} {t : TypeId} (hb : w.heap[g]? = some (.cells X t (0, 0))) (i j : Nat) (hi : i < 4) (hj : j < 4) :
    w.cell? ⟨g, 5 + i * 4 + j, none⟩ = some (.int .i64 (C i j)) := by rw [cell_of_row w g _ X t (0, 0) hb]; exact hX.comp i j hi hj

end Go.Proofs.Ytfgglainjaplgaa

namespace Go.Proofs.Ytfgglainjaplgaa
open Go.RowKit

theorem grown_setRow (w : World) (g : Nat) (X : Array Value) : w.grownBy (w.setRow g X) (some g) :=
  ⟨rfl, rfl, rfl, by simp [World.setRow], fun k _ hk => setRow_other w g k X (fun e => hk (by simp [e]))⟩

theorem wpList_store_row {P : Program} {ops : Array Oper} {rest : List Oper} {op : Oper} {a : Act} {w : World} {Q : Exit → Act → World → Prop} (hw : Region.wanted op (yielded ops a.tmps) = true) (ty : TypeId) (x y : Operand) (ho : op.op = .store ty x y)
    (b : Nat) (hx : a.eval x = .pointer (some ⟨b, 0, none⟩)) (X : Array Value) (hy : a.eval y = .agg X) (Y : Array Value) (t : TypeId) (hb : w.heap[b]? = some (.cells Y t (0, 0))) (hYX : Y.size = X.size)
    (hi : (P.info? ty).map (·.size) = some X.size) (h1 : X.all (·.oneCell') = true)
    (h : ∀ w', w'.heap[b]? = some (.cells X t (0, 0)) → w.grownBy w' (some b) → wpList P ops Q rest (a.put op.dst undef) w') : wpList P ops Q (op :: rest) a w :=
  BigFrame.wpList_want hw fun K hK => by
    unfold Oper.wp execOp
    simp only [ho, hx, hy, Instr.storeAt, Instr.sureAddr, Sem.run_bind, Sem.run_pure, Result.andThen_ok, run_storeVar_row w b t ty Y X hb hi hYX h1]
    exact hK _ _ (h _ (setRow_heap w b Y X t _ hb) (grown_setRow w b X))

/-- Copying elements of so many cells each. -/
theorem run_copyK {P : Program} (w : World) (dT sT ty elem : TypeId) (sz : Nat) (g off dLen dCap : Nat) (sp : Option Addr) (sLen sCap : Nat) (cur : Array Value) (t : TypeId) (cs : List Value)
    (hu : P.underlying dT = some (.slice elem)) (hs : (P.info? elem).map (·.size) = some sz) (hg : w.heap[g]? = some (.cells cur t (0, 0))) (hn : cs.length = Nat.min sLen dLen * sz)
    (hpos : 0 < cs.length → ∃ ad, sp = some ad ∧ ∀ j v, cs[j]? = some v → w.cell? (ad.add j) = some v) (hfit : off + cs.length ≤ cur.size) (h1 : ∀ v ∈ cs, v.oneCell' = true) :
    (Builtin.copy_ #[dT, sT] ty #[.slice (some ⟨g, off, none⟩) dLen dCap, .slice sp sLen sCap]).run P w = .ok (goInt (Nat.min sLen dLen)) (w.setRow g (cur.toList.take off ++ cs ++ cur.toList.drop (off + cs.length)).toArray) := by
  have hst := run_storeCells_at P g off t cs 0 cur w hg (by simpa using hfit) h1
  cases hq : P.info? elem with
  | none => simp [hq] at hs
  | some i =>
    have hi : i.size = sz := by simpa [hq] using hs
    by_cases h0 : cs.length = 0
    · obtain rfl : cs = [] := List.eq_nil_of_length_eq_zero h0
      have hz : Nat.min sLen dLen * sz = 0 := by simpa using hn.symm
      have hl : ∀ (x : Addr), (loadCells x 0).run P w = .ok #[] w := fun x => by simpa using run_loadCells_list (P := P) w x [] (by simp)
      have hst' : (storeCells ⟨g, off, none⟩ [] 0).run P w = .ok () (w.setRow g cur) := by simpa using hst
      cases sp <;> simp [Builtin.copy_, run_underlying hu, Builtin.lenOf, Builtin.firstCells, sizeOf, typeInfo, hq, hi, hz, hl, hst']
    · obtain ⟨ad, rfl, hsrc⟩ := hpos (by omega)
      have hl := run_loadCells_list (P := P) w ad cs hsrc
      simp [Builtin.copy_, run_underlying hu, Builtin.lenOf, Builtin.firstCells, sizeOf, typeInfo, hq, hi, ← hn, hl, hst]

theorem step_copyK {P : Program} {ops : Array Oper} {o : Oper} {a : Act} {w : World} {K : Act → World → Prop} {Q : Exit → Act → World → Prop} {E : Prop} (hgd : o.guard = none) (d s : Operand) (dT sT : TypeId)
    (ho : o.op = .call { callee := .builtin .copy, args := #[d, s], argTypes := #[dT, sT] }) (elem : TypeId) (hu : P.underlying dT = some (.slice elem)) (sz : Nat) (hsz : (P.info? elem).map (·.size) = some sz)
    (g off dLen dCap : Nat) (sp : Option Addr) (sLen sCap : Nat) (hd : a.eval d = .slice (some ⟨g, off, none⟩) dLen dCap) (hs : a.eval s = .slice sp sLen sCap)
    (cur : Array Value) (t : TypeId) (hg : w.heap[g]? = some (.cells cur t (0, 0))) (cs : List Value) (hn : cs.length = Nat.min sLen dLen * sz)
    (hpos : 0 < cs.length → ∃ ad, sp = some ad ∧ ∀ j v, cs[j]? = some v → w.cell? (ad.add j) = some v) (hfit : off + cs.length ≤ cur.size) (h1 : ∀ v ∈ cs, v.oneCell' = true)
    (h : ∀ w', Hid (w'.heap[g]? = some (.cells (cur.toList.take off ++ cs ++ cur.toList.drop (off + cs.length)).toArray t (0, 0))) → w.grownBy w' (some g) → K (a.put o.dst (goInt (Nat.min sLen dLen))) w') :
    if Region.wanted o (yielded ops a.tmps) = true then Oper.wp P o a w K Q else E := by
  have hw : Region.wanted o (yielded ops a.tmps) = true := by simp [Region.wanted, hgd]
  rw [if_pos hw]
  have hrun := run_copyK (P := P) w dT sT o.type elem sz g off dLen dCap sp sLen sCap cur t cs hu hsz hg hn hpos hfit h1
  unfold Oper.wp
  simp only [execOp, ho, resolve, invoke, builtin, Sem.run_bind, Sem.run_pure, Result.andThen_ok, List.map_toArray, List.map_cons, List.map_nil, hd, hs, hrun]
  exact h _ (setRow_heap w g _ _ t _ hg) (grown_setRow w g _)

theorem Fx.one {X : Array Value} {p wd ht rs n : Int} {C : Nat → Nat → Int} (hX : Fx X p wd ht rs n C) : X.all (·.oneCell') = true := by
  rw [Array.all_eq_true]
  intro i hi
  have hs := hX.size
  have key : ∀ v, X[i]? = some v → v.oneCell' = true → (X[i]).oneCell' = true := by
    intro v hv h
    rw [Array.getElem?_eq_getElem hi] at hv
    simp at hv
    rw [hv]; exact h
  by_cases h5 : i < 5
  · have : i = 0 ∨ i = 1 ∨ i = 2 ∨ i = 3 ∨ i = 4 := by omega
    rcases this with rfl | rfl | rfl | rfl | rfl
    · exact key _ hX.c0 rfl
    · exact key _ hX.c1 rfl
    · exact key _ hX.c2 rfl
    · exact key _ hX.c3 rfl
    · exact key _ hX.c4 rfl
  · have e : i = 5 + (i - 5) / 4 * 4 + (i - 5) % 4 := by omega
    have hc := hX.comp ((i - 5) / 4) ((i - 5) % 4) (by omega) (by omega)
    rw [← e] at hc
    exact key _ hc rfl

theorem results_cell1 {fn : Func} {p : Tmp} {ty : TypeId} (h : fn.results = #[.cell p ty]) (tmps : Array Value) (P : Program) (w : World) :
    (results fn tmps).run P w = ((asAddr (tmps.getD p undef)).run P w).andThen fun a w₁ => (loadVar ty a).run P w₁ := by
  simp only [results, h]
  simp [Sem.run_bind, Result.andThen]

/-- What is read through a slice of components: four numbers each. -/
def RdC (w : World) (ao : Option Addr) (n : Nat) (C : Nat → Nat → Int) : Prop :=
  ∀ i, i < n → ∃ b off, ao = some ⟨b, off, none⟩ ∧ ∀ j, j < 4 → w.cell? ⟨b, off + i * 4 + j, none⟩ = some (.int .i64 (C i j))
theorem RdC.grown {w w' : World} {ao : Option Addr} {n : Nat} {C : Nat → Nat → Int} (h : RdC w ao n C) (hg : w.grownBy w' none) : RdC w' ao n C :=
  fun i hi => by obtain ⟨b, off, e, hc⟩ := h i hi; exact ⟨b, off, e, fun j hj => hg.cell (hc j hj) (by simp)⟩

def compCells (C : Nat → Nat → Int) : Nat → Nat → Value := fun i j => .int .i64 (C i j)

theorem rdC_src {w : World} {ao : Option Addr} {n m : Nat} {C : Nat → Nat → Int} (h : RdC w ao n C) (hm : m ≤ n) : 0 < (rowsK m 4 (compCells C)).length → ∃ ad, ao = some ad ∧ ∀ j v, (rowsK m 4 (compCells C))[j]? = some v → w.cell? (ad.add j) = some v := by
  intro hp
  rw [rowsK_len] at hp
  obtain ⟨b, off, rfl, _⟩ := h 0 (by omega)
  refine ⟨_, rfl, fun j v hv => ?_⟩
  have hj : j < m * 4 := by have := (List.getElem?_eq_some_iff.1 hv).1; rwa [rowsK_len] at this
  obtain ⟨b', off', e, hc⟩ := h (j / 4) (by omega)
  simp only [Option.some.injEq, Addr.mk.injEq] at e
  obtain ⟨rfl, rfl, _⟩ := e
  have hd : j = j / 4 * 4 + j % 4 := by omega
  have hg := rowsK_get m 4 (compCells C) (j / 4) (j % 4) (by omega) (by omega)
  rw [← hd] at hg
  rw [hg] at hv
  simp at hv
  subst hv
  rw [Addr.add_lit]
  have := hc (j % 4) (by omega)
  rw [Nat.add_assoc, ← hd] at this
  exact this

theorem rowsK_one {m k : Nat} {f : Nat → Nat → Value} (h : ∀ i j, (f i j).oneCell' = true) : ∀ v ∈ rowsK m k f, v.oneCell' = true := by
  intro v hv
  obtain ⟨c, _, rfl⟩ := List.mem_map.1 hv
  exact h _ _

/-- The frame's cells behind the copy. -/
theorem fx_copied {cur : Array Value} {p wd ht rs n : Int} {D : Nat → Nat → Int} (h : Fx cur p wd ht rs n D) (m : Nat) (C : Nat → Nat → Int) (hm : m ≤ 4) :
    Fx (cur.toList.take 5 ++ rowsK m 4 (compCells C) ++ cur.toList.drop (5 + (rowsK m 4 (compCells C)).length)).toArray p wd ht rs n (fun i j => if i < m then C i j else D i j) := by
  have hs := h.size
  have hl : (cur.toList.take 5).length = 5 := by simp; omega
  have low : ∀ k, k < 5 → (cur.toList.take 5 ++ rowsK m 4 (compCells C) ++ cur.toList.drop (5 + (rowsK m 4 (compCells C)).length)).toArray[k]? = cur[k]? := by
    intro k hk
    rw [List.getElem?_toArray, List.append_assoc, List.getElem?_append_left (by omega), List.getElem?_take, if_pos hk]
    simp
  refine ⟨by simp [rowsK_len]; omega, (low 0 (by omega)).trans h.c0, (low 1 (by omega)).trans h.c1, (low 2 (by omega)).trans h.c2, (low 3 (by omega)).trans h.c3, (low 4 (by omega)).trans h.c4, fun i j hi hj => ?_⟩
  rw [List.getElem?_toArray]
  by_cases him : i < m
  · rw [List.getElem?_append_left (by rw [List.length_append, hl, rowsK_len]; omega), List.getElem?_append_right (by omega), hl, show 5 + i * 4 + j - 5 = i * 4 + j by omega, rowsK_get m 4 _ i j him hj, if_pos him]
    rfl
  · rw [List.getElem?_append_right (by rw [List.length_append, hl, rowsK_len]; omega), List.length_append, hl, rowsK_len, List.getElem?_drop, if_neg him, show 5 + m * 4 + (5 + i * 4 + j - (5 + m * 4)) = 5 + i * 4 + j by omega]
    have := h.comp i j hi hj
    simpa using this

end Go.Proofs.Ytfgglainjaplgaa

namespace Go.Proofs.Ytfgglainjaplgaa
open Go.RowKit

set_option maxRecDepth 100000 in
set_option maxHeartbeats 3200000 in
theorem specFrameOk (p wd ht rs : Int) (ao : Option Addr) (n cap : Nat) (C : Nat → Nat → Int) (w : World) (hr : RdC w ao n C) (t : Bool) (HFB : Hid (frameB p wd ht rs n C = t)) :
    Calls Try.prog 35 #[.agg #[.int .i64 p, .int .i64 wd, .int .i64 ht, .int .i64 rs, .slice ao n cap]] w fun e w' => e = .returned (.bool t) ∧ w.grownBy w' none := by
  have HR := hide hr
  clear hr
  have G0 : Hid (w.grownBy (w.alloc (.cells #[.int .i64 p, .int .i64 wd, .int .i64 ht, .int .i64 rs, .slice ao n cap] 33)) none) := grown_alloc (World.grownBy.refl _ _) _
  have HB := hide (heap_alloc_new w (.cells #[.int .i64 p, .int .i64 wd, .int .i64 ht, .int .i64 rs, .slice ao n cap] 33))
  have hgs : w.heap.size < (w.alloc (.cells #[.int .i64 p, .int .i64 wd, .int .i64 ht, .int .i64 rs, .slice ao n cap] 33)).heap.size := by simp
  have hcase : (p = 8 ∨ p = 12) ∨ ((p != 8) = true ∧ (p != 12) = true ∧ (p == 8) = false ∧ (p == 12) = false) := by
    by_cases e8 : p = 8
    · exact .inl (.inl e8)
    · by_cases e12 : p = 12
      · exact .inl (.inr e12)
      · exact .inr (by simp [e8, e12])
  rcases hcase with hp | ⟨n8, n12, m8, m12⟩
  · obtain ⟨t1, HT1⟩ : ∃ t1, Hid (decide (1 ≤ wd ∧ wd ≤ 256) = t1) := ⟨_, rfl⟩
    obtain ⟨t2, HT2⟩ : ∃ t2, Hid (decide (1 ≤ ht ∧ ht ≤ 256) = t2) := ⟨_, rfl⟩
    obtain ⟨t4, HT4⟩ : ∃ t4, Hid (decide (0 ≤ rs ∧ rs ≤ 255) = t4) := ⟨_, rfl⟩
    obtain ⟨t5, HT5⟩ : ∃ t5, Hid (decide (1 ≤ (n : Int) ∧ (n : Int) ≤ 4) = t5) := ⟨_, rfl⟩
    have HP : Hid (t = ((t1 && (t2 && (decide (wd * ht ≤ 16384) && t4))) && (t5 && (okTo C n && decide (sumHV C n ≤ 10))))) := by
      have e : (p == 8 || p == 12) = true := by rcases hp with rfl | rfl <;> rfl
      unfold Hid; rw [← unhide HFB, frameB, compsB, headB, e, unhide HT1, unhide HT2, unhide HT4, unhide HT5, Bool.true_and]
    clear HFB
    cases t1
    · have HF : Hid (t = false) := by unfold Hid; rw [unhide HP]; rfl
      rcases hp with rfl | rfl
      all_goals
        go_enter Try.func35, Try.ntmps35
        go_wp2_with fail
        refine (between wd 1 256 _ HT1 _).mono ?_
        rintro e w1 ⟨rfl, rfl⟩
        go_wp2
        go_ret
        exact ⟨ret_bool (by rw [unhide HF]), unhide G0⟩
    · cases t2
      · have HF : Hid (t = false) := by unfold Hid; rw [unhide HP]; rfl
        rcases hp with rfl | rfl
        all_goals
          go_enter Try.func35, Try.ntmps35
          go_wp2_with fail
          refine (between wd 1 256 _ HT1 _).mono ?_
          rintro e w1 ⟨rfl, rfl⟩
          go_wp2_with fail
          refine (between ht 1 256 _ HT2 _).mono ?_
          rintro e w1 ⟨rfl, rfl⟩
          go_wp2
          go_ret
          exact ⟨ret_bool (by rw [unhide HF]), unhide G0⟩
      · have hb1 := of_decide_eq_true (unhide HT1)
        have hb2 := of_decide_eq_true (unhide HT2)
        have hm := mul_side hb1 hb2
        have hwr := i64_in (wd * ht) (by omega)
        clear hm hb1 hb2
        by_cases hle : wd * ht ≤ 16384
        · have HLE := hide hle
          have hdm : decide (16384 < wd * ht) = false := decide_eq_false (by omega)
          rw [decide_eq_true hle] at HP
          clear hle
          cases t4
          · have HF : Hid (t = false) := by unfold Hid; rw [unhide HP]; rfl
            rcases hp with rfl | rfl
            all_goals
              go_enter Try.func35, Try.ntmps35
              go_wp2_with fail
              refine (between wd 1 256 _ HT1 _).mono ?_
              rintro e w1 ⟨rfl, rfl⟩
              go_wp2_with fail
              refine (between ht 1 256 _ HT2 _).mono ?_
              rintro e w1 ⟨rfl, rfl⟩
              go_wp2_with fail
              refine (between rs 0 255 _ HT4 _).mono ?_
              rintro e w1 ⟨rfl, rfl⟩
              go_wp2
              go_ret
              exact ⟨ret_bool (by rw [unhide HF]), unhide G0⟩
          · cases t5
            · have HF : Hid (t = false) := by unfold Hid; rw [unhide HP]; rfl
              rcases hp with rfl | rfl
              all_goals
                go_enter Try.func35, Try.ntmps35
                go_wp2_with fail
                refine (between wd 1 256 _ HT1 _).mono ?_
                rintro e w1 ⟨rfl, rfl⟩
                go_wp2_with fail
                refine (between ht 1 256 _ HT2 _).mono ?_
                rintro e w1 ⟨rfl, rfl⟩
                go_wp2_with fail
                refine (between rs 0 255 _ HT4 _).mono ?_
                rintro e w1 ⟨rfl, rfl⟩
                go_wp2_with fail
                refine (between n 1 4 _ HT5 _).mono ?_
                rintro e w1 ⟨rfl, rfl⟩
                go_wp2
                go_ret
                exact ⟨ret_bool (by rw [unhide HF]), unhide G0⟩
            · have hn4 : n ≤ 4 := by have := of_decide_eq_true (unhide HT5); omega
              have HR2 : Hid (t = (okTo C n && decide (sumHV C n ≤ 10))) := by unfold Hid; rw [unhide HP]; rfl
              clear HP
              rcases hp with rfl | rfl
              all_goals
                go_enter Try.func35, Try.ntmps35
                go_wp2_with fail
                refine (between wd 1 256 _ HT1 _).mono ?_
                rintro e w1 ⟨rfl, rfl⟩
                go_wp2_with fail
                refine (between ht 1 256 _ HT2 _).mono ?_
                rintro e w1 ⟨rfl, rfl⟩
                go_wp2_with fail
                refine (between rs 0 255 _ HT4 _).mono ?_
                rintro e w1 ⟨rfl, rfl⟩
                go_wp2_with fail
                refine (between n 1 4 _ HT5 _).mono ?_
                rintro e w1 ⟨rfl, rfl⟩
                go_wp2
                clear hwr hdm
                generalize (w.alloc (.cells #[.int .i64 _, .int .i64 wd, .int .i64 ht, .int .i64 rs, .slice ao n cap] 33)) = wx at *
                go_loopw [3, 4] (fun b i wr => ∃ k : Nat, k ≤ n ∧ i = .int .i64 k ∧ b = .int .i64 (sumHV C k) ∧ okTo C k = true ∧ wx.grownBy wr none) (fun _ i _ => n - (intOf i).toNat)
                case atStart => exact ⟨0, Nat.zero_le _, rfl, rfl, rfl, World.grownBy.refl _ _⟩
                case round =>
                  obtain ⟨k, hk, rfl, rfl, hok, hgk⟩ := hrel
                  have hBf := (hgk.block w.heap.size hgs (by simp)).trans (unhide HB)
                  have c4 : wr.cell? ⟨w.heap.size, 4, none⟩ = some (.slice ao n cap) := by rw [cell_of_row wr _ 4 _ _ (0, 0) hBf]; rfl
                  clear hBf
                  by_cases hlt : k < n
                  · obtain ⟨b, off, rfl, hc⟩ := (unhide HR) k hlt
                    have hc' := fun j hj => (grown_trans (unhide G0) hgk).cell (hc j hj) (by simp)
                    have h0 := hc' 0 (by omega)
                    have h1 := hc' 1 (by omega)
                    have h2 := hc' 2 (by omega)
                    have h3 := hc' 3 (by omega)
                    rw [Nat.add_zero] at h0
                    clear hc hc'
                    have HRW := hide ((unhide HR).grown (grown_trans (unhide G0) hgk))
                    have HOK := hide hok
                    have HSB := hide (sumHV_bounds k hok)
                    obtain ⟨u1, HU1⟩ : ∃ u, Hid (decide (0 ≤ C k 0 ∧ C k 0 ≤ 255) = u) := ⟨_, rfl⟩
                    obtain ⟨u2, HU2⟩ : ∃ u, Hid (decide (1 ≤ C k 1 ∧ C k 1 ≤ 4) = u) := ⟨_, rfl⟩
                    obtain ⟨u3, HU3⟩ : ∃ u, Hid (decide (1 ≤ C k 2 ∧ C k 2 ≤ 4) = u) := ⟨_, rfl⟩
                    obtain ⟨u4, HU4⟩ : ∃ u, Hid (decide (0 ≤ C k 3 ∧ C k 3 ≤ 3) = u) := ⟨_, rfl⟩
                    have HS1 : Hid (okTo C (k + 1) = (okTo C k && ((u1 && (u2 && (u3 && u4))) && !idIn C k k))) := by unfold Hid; rw [okTo, compB, unhide HU1, unhide HU2, unhide HU3, unhide HU4]
                    have HS2 : Hid (sumHV C (k + 1) = sumHV C k + C k 1 * C k 2) := rfl
                    have STOP : Hid (((u1 && (u2 && (u3 && u4))) && !idIn C k k) = false → t = false) := fun h => by rw [unhide HR2, okTo_false (k := k + 1) (by rw [unhide HS1, h, Bool.and_false]) n hlt]; rfl
                    have HCK := hide (heap_alloc_new wr (.cells #[.int .i64 (C k 0), .int .i64 (C k 1), .int .i64 (C k 2), .int .i64 (C k 3)] 30))
                    have GK : Hid (wr.grownBy (wr.alloc (.cells #[.int .i64 (C k 0), .int .i64 (C k 1), .int .i64 (C k 2), .int .i64 (C k 3)] 30)) none) := grown_alloc (World.grownBy.refl _ _) _
                    have hgz : wr.heap.size < (wr.alloc (.cells #[.int .i64 (C k 0), .int .i64 (C k 1), .int .i64 (C k 2), .int .i64 (C k 3)] 30)).heap.size := by simp
                    have GR : Hid (w.grownBy wr none) := grown_trans (unhide G0) hgk
                    have GX := hide hgk
                    clear hok hgk
                    cases u1
                    · go_wp2_with fail
                      refine (between (C k 0) 0 255 _ HU1 _).mono ?_
                      rintro e w2 ⟨rfl, rfl⟩
                      go_wp2
                      go_ret
                      exact ⟨ret_bool (by rw [unhide STOP rfl]), grown_trans (unhide GR) (unhide GK)⟩
                    · go_wp2_with fail
                      refine (between (C k 0) 0 255 _ HU1 _).mono ?_
                      rintro e w2 ⟨rfl, rfl⟩
                      go_wp2_with fail
                      refine (between (C k 1) 1 4 _ HU2 _).mono ?_
                      rintro e w2 ⟨rfl, rfl⟩
                      cases u2
                      · go_wp2
                        go_ret
                        exact ⟨ret_bool (by rw [unhide STOP rfl]), grown_trans (unhide GR) (unhide GK)⟩
                      · go_wp2_with fail
                        refine (between (C k 2) 1 4 _ HU3 _).mono ?_
                        rintro e w2 ⟨rfl, rfl⟩
                        cases u3
                        · go_wp2
                          go_ret
                          exact ⟨ret_bool (by rw [unhide STOP rfl]), grown_trans (unhide GR) (unhide GK)⟩
                        · go_wp2_with fail
                          refine (between (C k 3) 0 3 _ HU4 _).mono ?_
                          rintro e w2 ⟨rfl, rfl⟩
                          cases u4
                          · go_wp2
                            go_ret
                            exact ⟨ret_bool (by rw [unhide STOP rfl]), grown_trans (unhide GR) (unhide GK)⟩
                          · go_wp2
                            have d4 := (unhide GK).cell c4 (by simp)
                            clear c4 h0 h1 h2 h3
                            generalize (wr.alloc (.cells #[.int .i64 (C k 0), .int .i64 (C k 1), .int .i64 (C k 2), .int .i64 (C k 3)] 30)) = wy at *
                            obtain ⟨wo, rfl⟩ : ∃ wo, wo = wr := ⟨_, rfl⟩
                            go_loopw [6] (fun i wi => ∃ m : Nat, m ≤ k ∧ i = .int .i64 m ∧ idIn C k m = false ∧ wy.grownBy wi none) (fun i _ => k - (intOf i).toNat)
                            case atStart => exact ⟨0, Nat.zero_le _, rfl, rfl, World.grownBy.refl _ _⟩
                            case round =>
                              obtain ⟨m, hm, rfl, hid, hgi⟩ := hrel
                              have hBx := (hgi.block wo.heap.size hgz (by simp)).trans (unhide HCK)
                              by_cases hml : m < k
                              · have i4 := hgi.cell d4 (by simp)
                                have cx : wr.cell? ⟨wo.heap.size, 0, none⟩ = some (.int .i64 (C k 0)) := by rw [cell_of_row wr _ 0 _ _ (0, 0) hBx]; rfl
                                obtain ⟨b', off', e', hcm⟩ := (unhide HRW) m (by omega)
                                simp only [Option.some.injEq, Addr.mk.injEq] at e'
                                obtain ⟨rfl, rfl, _⟩ := e'
                                have cm := (grown_trans (unhide GK) hgi).cell (hcm 0 (by omega)) (by simp)
                                rw [Nat.add_zero] at cm
                                have HST : Hid (idIn C k (m + 1) = (idIn C k m || (C m 0 == C k 0))) := rfl
                                have HTR : Hid ((C m 0 == C k 0) = true → t = false) := fun h => unhide STOP (by rw [idIn_true h k hml]; rfl)
                                have HID := hide hid
                                have hmn : (m : Int) < (n : Int) := by omega
                                clear hBx hcm hid d4
                                generalize C m 0 = x at *
                                generalize C k 0 = y at *
                                cases hxy : (x == y) with
                                | false =>
                                  have HXY := hide hxy
                                  go_wp2
                                  go_quiet (fail)
                                  go_wp2
                                  go_roundw
                                  case rel => exact ⟨m + 1, by omega, by go_num, by rw [unhide HST, unhide HID, unhide HXY]; rfl, grown_drewN hgi _⟩
                                  case measure => simp [intOf]; omega
                                | true =>
                                  have HXY := hide hxy
                                  go_wp2
                                  go_quiet (fail)
                                  go_wp2
                                  go_ret
                                  exact ⟨ret_bool (by rw [unhide HTR (unhide HXY)]), grown_trans (unhide GR) (grown_trans (unhide GK) (grown_drewN hgi _))⟩
                              · have hmk : m = k := by omega
                                subst hmk
                                have c1 : wr.cell? ⟨wo.heap.size, 1, none⟩ = some (.int .i64 (C m 1)) := by rw [cell_of_row wr _ 1 _ _ (0, 0) hBx]; rfl
                                have c2 : wr.cell? ⟨wo.heap.size, 2, none⟩ = some (.int .i64 (C m 2)) := by rw [cell_of_row wr _ 2 _ _ (0, 0) hBx]; rfl
                                have hmul := mul_small (of_decide_eq_true (unhide HU2)) (of_decide_eq_true (unhide HU3))
                                have hsb := unhide HSB
                                have HID := hide hid
                                clear hBx hid d4
                                generalize C m 1 = x at *
                                generalize C m 2 = y at *
                                generalize hxy : x * y = z at *
                                have HXY := hide hxy
                                clear hxy
                                generalize sumHV C m = sm at *
                                clear hml hm
                                go_wp2
                                go_roundw
                                case rel => exact ⟨m + 1, by omega, by go_num, by rw [unhide HXY, IntWalk.wrap64_in z (by omega), IntWalk.wrap64_in (sm + z) (by omega), unhide HS2], by rw [unhide HS1, unhide HOK, unhide HID]; rfl, grown_trans (unhide GX) (grown_trans (unhide GK) hgi)⟩
                                case measure => simp [intOf]; omega
                  · have hkn : k = n := by omega
                    subst hkn
                    have HF : Hid (t = decide (sumHV C k ≤ 10)) := by unfold Hid; rw [unhide HR2, hok, Bool.true_and]
                    have hsb := sumHV_bounds k hok
                    clear hok
                    go_wp2
                    go_ret
                    exact ⟨ret_bool (by rw [unhide HF]), grown_trans (unhide G0) hgk⟩
        · have hdm : decide (16384 < wd * ht) = true := decide_eq_true (by omega)
          have HF : Hid (t = false) := by unfold Hid; rw [unhide HP, decide_eq_false hle]; rfl
          clear hle
          rcases hp with rfl | rfl
          all_goals
            go_enter Try.func35, Try.ntmps35
            go_wp2_with fail
            refine (between wd 1 256 _ HT1 _).mono ?_
            rintro e w1 ⟨rfl, rfl⟩
            go_wp2_with fail
            refine (between ht 1 256 _ HT2 _).mono ?_
            rintro e w1 ⟨rfl, rfl⟩
            go_wp2
            go_ret
            exact ⟨ret_bool (by rw [unhide HF]), unhide G0⟩
  · have HF : Hid (t = false) := by unfold Hid; rw [← unhide HFB, frameB, headB, m8, m12]; rfl
    clear HFB m8 m12
    go_enter Try.func35, Try.ntmps35
    go_wp2
    go_ret
    exact ⟨ret_bool (by rw [unhide HF]), unhide G0⟩

end Go.Proofs.Ytfgglainjaplgaa

namespace Go.Proofs.Ytfgglainjaplgaa
open Go.RowKit

theorem frameCells' {w : World} {g : Nat} {a b c d v : Value} {t : TypeId} (hb : w.heap[g]? = some (.cells #[a, b, c, d, v] t (0, 0))) :
    w.cell? ⟨g, 0, none⟩ = some a ∧ w.cell? ⟨g, 1, none⟩ = some b ∧ w.cell? ⟨g, 2, none⟩ = some c ∧ w.cell? ⟨g, 3, none⟩ = some d ∧ w.cell? ⟨g, 4, none⟩ = some v :=
  ⟨by rw [cell_of_row w _ 0 _ _ (0, 0) hb]; rfl, by rw [cell_of_row w _ 1 _ _ (0, 0) hb]; rfl, by rw [cell_of_row w _ 2 _ _ (0, 0) hb]; rfl, by rw [cell_of_row w _ 3 _ _ (0, 0) hb]; rfl, by rw [cell_of_row w _ 4 _ _ (0, 0) hb]; rfl⟩

end Go.Proofs.Ytfgglainjaplgaa

namespace Go.Proofs.Ytfgglainjaplgaa
open Go.RowKit

set_option maxRecDepth 20000 in
set_option maxHeartbeats 1600000 in
theorem specComps (p wd ht rs : Int) (fo : Option Addr) (n fcap : Nat) (hn : n ≤ 4194304) (ao : Option Addr) (m cap : Nat) (cs : List Int) (w : World) (hr : Rd .i64 w ao m cs) (hm : m ≤ 4194304) :
    Calls Try.prog 68 #[.agg #[.int .i64 p, .int .i64 wd, .int .i64 ht, .int .i64 rs, .slice fo n fcap], .slice ao m cap] w fun e w' => e = .returned (.bool (okComps n cs)) ∧ w.grownBy w' none := by
  have hml := hr.1
  obtain ⟨wx, hW0⟩ : ∃ wx, w.alloc (.cells #[.int .i64 p, .int .i64 wd, .int .i64 ht, .int .i64 rs, .slice fo n fcap] 33) = wx := ⟨_, rfl⟩
  have G0 : w.grownBy wx none := by rw [← hW0]; exact grown_alloc (World.grownBy.refl _ _) _
  have B0 : Hid (wx.heap[w.heap.size]? = some (.cells #[.int .i64 p, .int .i64 wd, .int .i64 ht, .int .i64 rs, .slice fo n fcap] 33 (0, 0))) := by rw [← hW0]; exact heap_alloc_new w _
  have hgs : w.heap.size < wx.heap.size := by rw [← hW0]; simp
  have HR := hide (hr.grown G0)
  have HG0 := hide G0
  have HW := hide hW0
  have hwn := i64_in ((n : Int) - 1) (by omega)
  clear hr G0 hW0
  go_enter Try.func68, Try.ntmps68
  go_wp2
  rw [unhide HW]
  clear HW
  go_loopw [5] (fun i wr => ∃ k : Nat, k ≤ m ∧ i = .int .i64 k ∧ compsTo n cs k = true ∧ wx.grownBy wr none) (fun i _ => m - (intOf i).toNat)
  case atStart => exact ⟨0, Nat.zero_le _, rfl, rfl, World.grownBy.refl _ _⟩
  case round =>
    obtain ⟨k, hk, rfl, hok, hgk⟩ := hrel
    by_cases hlt : k < m
    · obtain ⟨b, off, hao, hc⟩ := ((unhide HR).grown hgk).2 k hlt
      obtain ⟨_, _, _, _, kf⟩ := frameCells' ((hgk.block w.heap.size hgs (by simp)).trans (unhide B0))
      have HS : Hid (compsTo n cs (k + 1) = (compsTo n cs k && (decide (0 ≤ cs.getD k 0 ∧ cs.getD k 0 ≤ (n : Int) - 1) && decide (k = 0 ∨ cs.getD (k - 1) 0 < cs.getD k 0)))) := rfl
      have HOK := hide hok
      have STOP : Hid (compsTo n cs (k + 1) = false → okComps n cs = false) := fun h => by
        rw [okComps, compsTo_false h cs.length (by omega)]; rfl
      obtain ⟨t, HT⟩ : ∃ t, Hid (decide (0 ≤ cs.getD k 0 ∧ cs.getD k 0 ≤ (n : Int) - 1) = t) := ⟨_, rfl⟩
      have hk1 : (k : Int) < (m : Int) := by omega
      rw [unhide HT, unhide HOK, Bool.true_and] at HS
      clear hok HOK
      by_cases h0 : k = 0
      · subst h0
        have HS2 : Hid (compsTo n cs (0 + 1) = t) := by unfold Hid; rw [unhide HS]; simp
        clear HS
        rw [Nat.add_zero] at hc
        generalize cs.getD 0 0 = c at *
        subst hao
        cases t
        · go_wp2
          go_quiet ((go_at_call_of 36 (Value.int .i64 c); exact Calls.quiet_of_same (between c 0 _ false HT _)))
          all_goals
            go_wp2
            go_ret
            exact ⟨ret_bool (by rw [unhide STOP (unhide HS2)]), grown_drewN (grown_trans (unhide HG0) hgk) _⟩
        · go_wp2
          go_quiet ((go_at_call_of 36 (Value.int .i64 c); exact Calls.quiet_of_same (between c 0 _ true HT _)))
          all_goals
            go_wp2
            go_roundw
            case rel => exact ⟨1, by omega, by go_num, unhide HS2, grown_drewN hgk _⟩
            case measure => simp [intOf]; omega
      · obtain ⟨b', off', hao', hc'⟩ := ((unhide HR).grown hgk).2 (k - 1) (by omega)
        obtain ⟨rfl, rfl⟩ : b' = b ∧ off' = off := by rw [hao] at hao'; simpa [eq_comm] using hao'
        subst hao
        clear hao'
        have hkp : (0 : Int) < (k : Int) := by omega
        obtain ⟨j, rfl⟩ : ∃ j, k = j + 1 := ⟨k - 1, by omega⟩
        simp only [Nat.add_sub_cancel] at hc' HS
        have hw1 : IntKind.i64.wrap (((j + 1 : Nat) : Int) - 1) = (j : Int) := by rw [i64_in _ (by omega)]; omega
        have hj0 : (0 : Int) ≤ (j : Int) := by omega
        have hj1 : (j : Int) < (m : Int) := by omega
        generalize cs.getD (j + 1) 0 = c at *
        generalize cs.getD j 0 = d at *
        cases t
        · have HS2 : Hid (compsTo n cs (j + 1 + 1) = false) := by unfold Hid; rw [unhide HS]; simp
          go_wp2
          go_quiet ((go_at_call_of 36 (Value.int .i64 c); exact Calls.quiet_of_same (between c 0 _ false HT _)))
          all_goals
            go_wp2
            go_ret
            exact ⟨ret_bool (by rw [unhide STOP (unhide HS2)]), grown_drewN (grown_trans (unhide HG0) hgk) _⟩
        · by_cases hdc : d < c
          · have HS2 : Hid (compsTo n cs (j + 1 + 1) = true) := by unfold Hid; rw [unhide HS]; simp [hdc]
            have hdc' : ¬ c ≤ d := by omega
            go_wp2
            go_quiet ((go_at_call_of 36 (Value.int .i64 c); exact Calls.quiet_of_same (between c 0 _ true HT _)))
            all_goals
              go_wp2
              go_roundw
              case rel => exact ⟨j + 1 + 1, by omega, by go_num, unhide HS2, grown_drewN hgk _⟩
              case measure => simp [intOf]; omega
          · have HS2 : Hid (compsTo n cs (j + 1 + 1) = false) := by unfold Hid; rw [unhide HS]; simp [hdc]
            have hdc' : c ≤ d := by omega
            go_wp2
            go_quiet ((go_at_call_of 36 (Value.int .i64 c); exact Calls.quiet_of_same (between c 0 _ true HT _)))
            all_goals
              go_wp2
              go_ret
              exact ⟨ret_bool (by rw [unhide STOP (unhide HS2)]), grown_drewN (grown_trans (unhide HG0) hgk) _⟩
    · have hkn : k = m := by omega
      subst hkn
      have HE : Hid (okComps n cs = decide (0 < k)) := by
        unfold Hid okComps
        rw [hml, hok, Bool.true_and]
      clear hok
      go_wp2
      go_ret
      exact ⟨ret_bool (by rw [unhide HE]), grown_trans (unhide HG0) hgk⟩

end Go.Proofs.Ytfgglainjaplgaa

namespace Go.Proofs.Ytfgglainjaplgaa
open Go.RowKit

def passB (a : Scn) : Bool := decide (0 ≤ a.fr ∧ a.fr ≤ a.to) && decide (a.to ≤ 63) && decide (0 ≤ a.lo ∧ a.lo ≤ 13) && (decide (a.hi = 0) || decide (a.hi = a.lo + 1))
def scanB (fb : Bool) (n : Nat) (a : Scn) : Bool := fb && okComps n a.cs && passB a

set_option maxHeartbeats 1600000 in
theorem specBits (w : World) (vo : Option Addr) (vn vc : Nat) (a : Scn) (t : Bool) (HT : Hid (passB a = t)) :
    Calls Try.prog 39 #[.agg #[.slice vo vn vc, .int .i64 a.fr, .int .i64 a.to, .int .i64 a.hi, .int .i64 a.lo]] w fun e w' => e = .returned (.bool t) ∧ w.grownBy w' none := by
  obtain ⟨cs, fr, to, hi, lo⟩ := a
  dsimp only
  have hp := unhide HT
  unfold passB at hp
  dsimp only at hp
  have HG0 : Hid (w.grownBy (w.alloc (.cells #[.slice vo vn vc, .int .i64 fr, .int .i64 to, .int .i64 hi, .int .i64 lo] 26)) none) := World.grownBy_alloc _ _ _
  obtain ⟨c0, c1, c2, c3, c4⟩ := scanCells (heap_alloc_new w (.cells #[.slice vo vn vc, .int .i64 fr, .int .i64 to, .int .i64 hi, .int .i64 lo] 26))
  obtain ⟨b1, HB1⟩ : ∃ b, Hid (decide (0 ≤ fr ∧ fr ≤ to) = b) := ⟨_, rfl⟩
  obtain ⟨b2, HB2⟩ : ∃ b, Hid (decide (to ≤ 63) = b) := ⟨_, rfl⟩
  obtain ⟨b3, HB3⟩ : ∃ b, Hid (decide (0 ≤ lo ∧ lo ≤ 13) = b) := ⟨_, rfl⟩
  rw [unhide HB1, unhide HB2, unhide HB3] at hp
  have h2 := unhide HB2
  clear HT
  go_enter Try.func39, Try.ntmps39
  go_wp2_with fail
  refine (between fr 0 to b1 HB1 _).mono ?_
  rintro e w1 ⟨rfl, rfl⟩
  cases b1 with
  | false =>
    have e : t = false := by rw [← hp]; rfl
    subst e
    go_wp2
    go_ret
    exact ⟨rfl, unhide HG0⟩
  | true =>
    cases b2 with
    | false =>
      have e : t = false := by rw [← hp]; rfl
      subst e
      go_wp2
      go_ret
      exact ⟨rfl, unhide HG0⟩
    | true =>
      go_wp2_with fail
      refine (between lo 0 13 b3 HB3 _).mono ?_
      rintro e w1 ⟨rfl, rfl⟩
      cases b3 with
      | false =>
        have e : t = false := by rw [← hp]; rfl
        subst e
        go_wp2
        go_ret
        exact ⟨rfl, unhide HG0⟩
      | true =>
        have hlo := of_decide_eq_true (unhide HB3)
        have e1 := i64_in (lo + 1) (by omega)
        have hp2 : (decide (hi = 0) || decide (hi = lo + 1)) = t := hp
        by_cases h0 : hi = 0
        · have n0 : (hi == 0) = true := by simp [h0]
          have e : t = true := by rw [← hp2, decide_eq_true h0]; rfl
          subst e
          clear h0 hp hp2
          go_wp2
          go_ret
          exact ⟨rfl, unhide HG0⟩
        · have n0 : (hi == 0) = false := by simp [h0]
          obtain ⟨t2, ht2⟩ : ∃ t2, (hi == lo + 1) = t2 := ⟨_, rfl⟩
          have e : t = t2 := by
            rw [← hp2, decide_eq_false h0, ← ht2]
            by_cases h1 : hi = lo + 1
            · simp [h1]
            · simp [h1]
          subst e
          clear h0 hp hp2
          go_wp2
          go_ret
          exact ⟨rfl, unhide HG0⟩

set_option maxRecDepth 20000 in
set_option maxHeartbeats 1600000 in
theorem specScanOk (p wd ht rs : Int) (fo : Option Addr) (n fc : Nat) (C : Nat → Nat → Int) (w : World) (hr : RdC w fo n C) (hn : n ≤ 4194304) (vo : Option Addr) (vn vc : Nat) (a : Scn) (hv : Rd .i64 w vo vn a.cs) (hvn : vn ≤ 4194304) (fb t : Bool) (HFB : Hid (frameB p wd ht rs n C = fb)) (HT : Hid (scanB fb n a = t)) :
    Calls Try.prog 57 #[.agg #[.int .i64 p, .int .i64 wd, .int .i64 ht, .int .i64 rs, .slice fo n fc], .agg #[.slice vo vn vc, .int .i64 a.fr, .int .i64 a.to, .int .i64 a.hi, .int .i64 a.lo]] w fun e w' => e = .returned (.bool t) ∧ w.grownBy w' none := by
  have hp := unhide HT
  unfold scanB at hp
  obtain ⟨b2, HB2⟩ : ∃ b, Hid (okComps n a.cs = b) := ⟨_, rfl⟩
  obtain ⟨b3, HB3⟩ : ∃ b, Hid (passB a = b) := ⟨_, rfl⟩
  have HBITS := hide (fun W => specBits W vo vn vc a b3 HB3)
  have HCOMP := hide (fun W (g : w.grownBy W none) => specComps p wd ht rs fo n fc hn vo vn vc a.cs W (hv.grown g) hvn)
  rw [unhide HB2, unhide HB3] at hp
  rw [unhide HB2] at HCOMP
  obtain ⟨cs, fr, to, hi, lo⟩ := a
  dsimp only at hv HBITS ⊢
  obtain ⟨W2, HW2⟩ : ∃ W2, Hid ((w.alloc (.cells #[.int .i64 p, .int .i64 wd, .int .i64 ht, .int .i64 rs, .slice fo n fc] 33)).alloc (.cells #[.slice vo vn vc, .int .i64 fr, .int .i64 to, .int .i64 hi, .int .i64 lo] 26) = W2) := ⟨_, rfl⟩
  have G0 : w.grownBy W2 none := by rw [← unhide HW2]; exact grown_alloc (grown_alloc (World.grownBy.refl _ _) _) _
  have B0 : W2.heap[w.heap.size]? = some (.cells #[.int .i64 p, .int .i64 wd, .int .i64 ht, .int .i64 rs, .slice fo n fc] 33 (0, 0)) := by
    rw [← unhide HW2]
    exact at_rowS (World.grownBy_alloc _ _ none) (heap_alloc_new w _) (by simp)
  have B1 : W2.heap[w.heap.size + 1]? = some (.cells #[.slice vo vn vc, .int .i64 fr, .int .i64 to, .int .i64 hi, .int .i64 lo] 26 (0, 0)) := by
    rw [← unhide HW2]
    have := heap_alloc_new (w.alloc (.cells #[.int .i64 p, .int .i64 wd, .int .i64 ht, .int .i64 rs, .slice fo n fc] 33)) (.cells #[.slice vo vn vc, .int .i64 fr, .int .i64 to, .int .i64 hi, .int .i64 lo] 26)
    simpa using this
  have HFR := hide (specFrameOk p wd ht rs fo n fc C W2 (hr.grown G0) fb HFB)
  have HB0 := hide B0
  have HB1 := hide B1
  have HG0 := hide G0
  rw [← unhide HW2] at B0
  obtain ⟨f0, f1, f2, f3, f4⟩ := frameCells' B0
  clear hr hv G0 B0 B1 HT
  go_enter Try.func57, Try.ntmps57
  go_wp2_with fail
  rw [unhide HW2]
  clear HW2 f0 f1 f2 f3 f4
  refine (unhide HFR).mono ?_
  rintro e w3 ⟨rfl, g3⟩
  have HG3 := hide (grown_trans (unhide HG0) g3)
  have hA := at_rowS g3 (unhide HB0) (by simp)
  have hB := at_rowS g3 (unhide HB1) (by simp)
  cases fb with
  | false =>
    have e : t = false := by rw [← hp]; rfl
    subst e
    go_wp2
    go_ret
    exact ⟨rfl, unhide HG3⟩
  | true =>
    obtain ⟨f0, f1, f2, f3, f4⟩ := frameCells' hA
    obtain ⟨c0, c1, c2, c3, c4⟩ := scanCells hB
    have HHB := hide hB
    clear hA hB g3 HB0 HB1 HG0 HFR
    go_wp2_with fail
    refine (unhide HCOMP w3 (unhide HG3)).mono ?_
    rintro e w4 ⟨rfl, g4⟩
    have HG4 := hide (grown_trans (unhide HG3) g4)
    have hB4 := at_rowS g4 (unhide HHB) (by simp)
    clear f0 f1 f2 f3 f4 c0 c1 c2 c3 c4
    cases b2 with
    | false =>
      have e : t = false := by rw [← hp]; rfl
      subst e
      go_wp2
      go_ret
      exact ⟨rfl, unhide HG4⟩
    | true =>
      have e : t = b3 := by rw [← hp]; rfl
      subst e
      obtain ⟨c0, c1, c2, c3, c4⟩ := scanCells hB4
      clear hB4 g4 HHB HCOMP HG3
      go_wp2_with fail
      refine (unhide HBITS w4).mono ?_
      rintro e w5 ⟨rfl, g5⟩
      have HG5 := hide (grown_trans (unhide HG4) g5)
      clear g5 c0 c1 c2 c3 c4
      go_wp2
      go_ret
      exact ⟨rfl, unhide HG5⟩

end Go.Proofs.Ytfgglainjaplgaa

namespace Go.Proofs.Ytfgglainjaplgaa
open Go.RowKit

end Go.Proofs.Ytfgglainjaplgaa
