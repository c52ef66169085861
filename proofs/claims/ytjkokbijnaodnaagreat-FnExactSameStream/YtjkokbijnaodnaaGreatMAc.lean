/-
  ScanTo, ScanHeld, ScanSz, ScanOpen, FrameRows, FrameLaws, GeoPure, GeoOrd, Between, FrameSpec, GeoSpec, GeoCompsS, ScanSpec, ScriptPure, ScriptMath, FrameMarks, FrameBox.
-/
import Derived.OpenShut
import Derived.Test.YtjkokbijnaodnaaGreatRows
import Derived.Deep.RegionHeld3
import Derived.Test.YtjkokbijnaodnaaGreatMAb

namespace Go.Proofs.YtjkokbijnaodnaaGreat
open Go.RowKit

set_option maxRecDepth 20000 in
set_option maxHeartbeats 1600000 in
theorem toScanC : ToC 44 RdSc OwSc szSc := by
  intro w u a hq hs
  obtain ⟨v, rfl, hv⟩ := hq
  obtain ⟨cs, fr, to, hi, lo⟩ := a
  obtain ⟨vo, vc, rfl, hr⟩ := id hv
  clear hr
  dsimp only at hv ⊢
  obtain ⟨vn, HVN⟩ : ∃ vn, Hid (cs.length = vn) := ⟨_, rfl⟩
  rw [unhide HVN] at hv ⊢
  obtain ⟨W3, HW3⟩ : ∃ W3, Hid (((w.alloc (.cells #[.slice vo vn vc, .int .i64 fr, .int .i64 to, .int .i64 hi, .int .i64 lo] 68)).alloc (.cells #[.slice none 0 0, .int .i64 0, .int .i64 0, .int .i64 0, .int .i64 0] 77)).alloc (.cells #[.slice none 0 0, .int .i64 0, .int .i64 0, .int .i64 0, .int .i64 0] 77) = W3) := ⟨_, rfl⟩
  have G0 : w.grownBy W3 none := by rw [← unhide HW3]; exact grown_alloc (grown_alloc (grown_alloc (World.grownBy.refl _ _) _) _) _
  have B0 : W3.heap[w.heap.size]? = some (.cells #[.slice vo vn vc, .int .i64 fr, .int .i64 to, .int .i64 hi, .int .i64 lo] 68 (0, 0)) := by
    rw [← unhide HW3]
    exact at_rowS (World.grownBy_alloc _ _ none) (at_rowS (World.grownBy_alloc _ _ none) (heap_alloc_new w _) (by simp)) (by simp)
  have B1 : W3.heap[w.heap.size + 1]? = some (.cells #[.slice none 0 0, .int .i64 0, .int .i64 0, .int .i64 0, .int .i64 0] 77 (0, 0)) := by
    rw [← unhide HW3]
    refine at_rowS (World.grownBy_alloc _ _ none) ?_ (by simp)
    have := heap_alloc_new (w.alloc (.cells #[.slice vo vn vc, .int .i64 fr, .int .i64 to, .int .i64 hi, .int .i64 lo] 68)) (.cells #[.slice none 0 0, .int .i64 0, .int .i64 0, .int .i64 0, .int .i64 0] 77)
    simpa using this
  have B2 : W3.heap[w.heap.size + 1 + 1]? = some (.cells #[.slice none 0 0, .int .i64 0, .int .i64 0, .int .i64 0, .int .i64 0] 77 (0, 0)) := by
    rw [← unhide HW3]
    have := heap_alloc_new ((w.alloc (.cells #[.slice vo vn vc, .int .i64 fr, .int .i64 to, .int .i64 hi, .int .i64 lo] 68)).alloc (.cells #[.slice none 0 0, .int .i64 0, .int .i64 0, .int .i64 0, .int .i64 0] 77)) (.cells #[.slice none 0 0, .int .i64 0, .int .i64 0, .int .i64 0, .int .i64 0] 77)
    simpa using this
  have HTO := hide (toIntSC W3 (.slice vo vn vc) cs (RdI.st .i64 _ _ _ _ hv G0) hs)
  have HB0 := hide B0
  have HB1 := hide B1
  have HB2 := hide B2
  have HG0 := hide G0
  rw [← unhide HW3] at B0
  obtain ⟨c0, c1, c2, c3, c4⟩ := scanCells B0
  clear hv hs G0 B0 B1 B2
  unfold scV
  dsimp only
  go_enter Tryz.func44, Tryz.ntmps44
  go_wp2_with fail
  rw [unhide HW3]
  clear HW3 c0 c1 c2 c3 c4
  refine (unhide HTO).mono ?_
  rintro e w4 ⟨u4, F4, rfl, o4, n4, l4, g4⟩
  obtain ⟨o4', rfl⟩ := o4
  obtain ⟨uo, uc, rfl⟩ := own_form o4'
  rw [unhide HVN] at o4' l4 n4 ⊢
  have B0 := at_rowS g4 (unhide HB0) (by simp)
  have B1 := at_rowS g4 (unhide HB1) (by simp)
  have B2 := at_rowS g4 (unhide HB2) (by simp)
  have HS3 : Hid (w.heap.size + 3 ≤ W3.heap.size) := by have := (Array.getElem?_eq_some_iff.1 (unhide HB2)).1; unfold Hid; omega
  have HB1' := hide B1
  have HB2' := hide B2
  obtain ⟨c0, c1, c2, c3, c4⟩ := scanCells B0
  obtain ⟨d0, d1, d2, d3, d4⟩ := scanCells B1
  obtain ⟨e0, e1, e2, e3, e4⟩ := scanCells B2
  have fd : ∀ j, w4.frozen? ⟨w.heap.size + 1, j, none⟩ = false := fun j => frozen_of_row w4 _ j _ _ B1
  have fe : ∀ j, w4.frozen? ⟨w.heap.size + 1 + 1, j, none⟩ = false := fun j => frozen_of_row w4 _ j _ _ B2
  have q0 := fd 0
  have q1 := fd 1
  have q2 := fd 2
  have q3 := fd 3
  have q4 := fd 4
  have r0 := fe 0
  have r1 := fe 1
  have r2 := fe 2
  have r3 := fe 3
  have r4 := fe 4
  have HO4 := hide o4'
  have HL4 := hide l4
  have HN4 := hide n4
  have HG4 := hide (grown_trans (unhide HG0) g4)
  have HS4 := hide g4.size
  clear B0 B1 B2 o4' l4 n4 g4 fd fe HB0 HB1 HB2 HG0 HTO
  go_wp2
  have G5 := grown_trans (grown_trans (grown_trans (grown_trans (grown_set w4 (w.heap.size + 1 + 1) 0 (.slice uo vn uc)) (grown_set _ (w.heap.size + 1 + 1) 1 (.int .i64 fr))) (grown_set _ (w.heap.size + 1 + 1) 2 (.int .i64 to))) (grown_set _ (w.heap.size + 1 + 1) 3 (.int .i64 hi))) (grown_set _ (w.heap.size + 1 + 1) 4 (.int .i64 lo))
  obtain ⟨X5, hX5⟩ : ∃ X5, ((((w4.setCell ⟨w.heap.size + 1 + 1, 0, none⟩ (.slice uo vn uc)).setCell ⟨w.heap.size + 1 + 1, 1, none⟩ (.int .i64 fr)).setCell ⟨w.heap.size + 1 + 1, 2, none⟩ (.int .i64 to)).setCell ⟨w.heap.size + 1 + 1, 3, none⟩ (.int .i64 hi)).setCell ⟨w.heap.size + 1 + 1, 4, none⟩ (.int .i64 lo) = X5 := ⟨_, rfl⟩
  rw [hX5] at G5 ⊢
  have E1 := at_rowS G5 (unhide HB1') (by simp)
  have D0 := heap_setCell_same X5 (w.heap.size + 1) 0 _ _ (.slice uo vn uc) E1
  have D1 := heap_setCell_same _ (w.heap.size + 1) 1 _ _ (.int .i64 fr) D0
  have D2 := heap_setCell_same _ (w.heap.size + 1) 2 _ _ (.int .i64 to) D1
  have D3 := heap_setCell_same _ (w.heap.size + 1) 3 _ _ (.int .i64 hi) D2
  have D4 := heap_setCell_same _ (w.heap.size + 1) 4 _ _ (.int .i64 lo) D3
  simp only [List.setIfInBounds_toArray, List.set_cons_zero, List.set_cons_succ] at D4
  have G10 := grown_trans (grown_trans (grown_trans (grown_trans (grown_set X5 (w.heap.size + 1) 0 (.slice uo vn uc)) (grown_set _ (w.heap.size + 1) 1 (.int .i64 fr))) (grown_set _ (w.heap.size + 1) 2 (.int .i64 to))) (grown_set _ (w.heap.size + 1) 3 (.int .i64 hi))) (grown_set _ (w.heap.size + 1) 4 (.int .i64 lo))
  obtain ⟨X10, hX10⟩ : ∃ X10, ((((X5.setCell ⟨w.heap.size + 1, 0, none⟩ (.slice uo vn uc)).setCell ⟨w.heap.size + 1, 1, none⟩ (.int .i64 fr)).setCell ⟨w.heap.size + 1, 2, none⟩ (.int .i64 to)).setCell ⟨w.heap.size + 1, 3, none⟩ (.int .i64 hi)).setCell ⟨w.heap.size + 1, 4, none⟩ (.int .i64 lo) = X10 := ⟨_, rfl⟩
  rw [hX10] at D4 G10 ⊢
  obtain ⟨s0, s1, s2, s3, s4⟩ := scanCells D4
  clear hX5 hX10 D0 D1 D2 D3 E1
  have hb := fun g e => ((unhide HO4).lt g e).1
  have hbl : ∀ g, (Value.slice uo vn uc).ownBlock = some g → W3.heap.size ≤ g := fun g e => unhide HL4 g (mem_blk.2 e)
  have o5 := own_beneath (unhide HO4) G5 (fun a b h1 h2 => by have := hbl a h1; have := unhide HS3; simp at h2; omega)
  have o10 := own_beneath o5 G10 (fun a b h1 h2 => by have := hbl a h1; have := unhide HS3; simp at h2; omega)
  refine bodyPost_ret (v := .agg #[.slice uo vn uc, .int .i64 fr, .int .i64 to, .int .i64 hi, .int .i64 lo]) (by simp [results, Tryz.results44, go_sem, s0, s1, s2, s3, s4]) rfl ?_
  refine ⟨_, _, rfl, ⟨_, rfl, ?_, rfl⟩, blk_nodup _, fun g hg => ?_, grown_new (grown_new (unhide HG4) G5 (fun k e => by simp at e; omega)) G10 (fun k e => by simp at e; omega)⟩
  · rw [unhide HVN]; exact own_base o10 (Nat.zero_le _)
  · have := hbl g (mem_blk.1 hg); have := unhide HS3; omega

theorem info_scan : (Tryz.prog.info? 77).map (fun i => (i.zero, i.size, i.bytes)) = some (some (.agg #[.slice none 0 0, .int .i64 0, .int .i64 0, .int .i64 0, .int .i64 0]), 5, 56) := by kernel_rfl

def five (v a b c d : Value) (q : Nat) : Value := if q = 0 then v else if q = 1 then a else if q = 2 then b else if q = 3 then c else d
theorem own5 {w : World} {g cap n base : Nat} {e : TypeId} {U : Nat → Nat → Value} (h : w.ownsRow base e 5 (.slice (some ⟨g, 0, none⟩) n cap) n (rowsK n 5 U)) (i : Nat) (v a b c d : Value) :
    (((((w.setCell ⟨g, i * 5, none⟩ v).setCell ⟨g, i * 5 + 1, none⟩ a).setCell ⟨g, i * 5 + 2, none⟩ b).setCell ⟨g, i * 5 + 3, none⟩ c).setCell ⟨g, i * 5 + 4, none⟩ d).ownsRow base e 5 (.slice (some ⟨g, 0, none⟩) n cap) n (rowsK n 5 (fun p q => if p = i then five v a b c d q else U p q)) := by
  have s0 := (h.stored (i * 5 + 0) v).1
  rw [rowsK_set n 5 U i 0 v (by omega)] at s0
  have s1 := (s0.stored (i * 5 + 1) a).1
  rw [rowsK_set n 5 _ i 1 a (by omega)] at s1
  have s2 := (s1.stored (i * 5 + 2) b).1
  rw [rowsK_set n 5 _ i 2 b (by omega)] at s2
  have s3 := (s2.stored (i * 5 + 3) c).1
  rw [rowsK_set n 5 _ i 3 c (by omega)] at s3
  have s4 := (s3.stored (i * 5 + 4) d).1
  rw [rowsK_set n 5 _ i 4 d (by omega)] at s4
  rw [Nat.add_zero] at s4
  have e9 : rowsK n 5 (fun p q => if p = i then five v a b c d q else U p q) = rowsK n 5 (fun p q => if p = i ∧ q = 4 then d else if p = i ∧ q = 3 then c else if p = i ∧ q = 2 then b else if p = i ∧ q = 1 then a else if p = i ∧ q = 0 then v else U p q) := by
    apply rowsK_congr
    intro p q _ hq
    by_cases ep : p = i
    · subst ep
      have : q = 0 ∨ q = 1 ∨ q = 2 ∨ q = 3 ∨ q = 4 := by omega
      rcases this with rfl | rfl | rfl | rfl | rfl <;> simp [five]
    · simp [ep]
  rw [e9]
  exact s4
theorem fillZ {α : Type} (z : α) (a : List α) (i : Nat) (h : i < a.length) : (a.take i ++ List.replicate (a.length - i) z).set i a[i] = a.take (i + 1) ++ List.replicate (a.length - (i + 1)) z := by
  rw [List.set_append_right _ _ (by simp; omega)]
  have e1 : i - (a.take i).length = 0 := by simp; omega
  rw [e1, show a.length - i = (a.length - (i + 1)) + 1 by omega, List.replicate_succ, List.set_cons_zero, List.take_succ_eq_append_getElem h, List.append_assoc]
  rfl

set_option maxRecDepth 20000 in
set_option maxHeartbeats 3200000 in
theorem toScanSC : ToC 20 RdSs OwSs (szR szSc) := by
  intro w u a hq hs
  obtain ⟨ao, cap, rfl, hel⟩ := hq
  obtain ⟨i0, hi, hz0, hz1, hz2⟩ := info_parts info_scan
  have HEL := hide hel
  have hlen := szR_len szSc a
  have HSE := hide (fun i h => (szR_el szSc a i h).2)
  obtain ⟨n, HN⟩ : ∃ n, Hid (a.length = n) := ⟨_, rfl⟩
  have hn : n ≤ 1048576 := by have := unhide HN; omega
  have HS := hide hs
  rw [unhide HN]
  clear hel hs hlen
  go_enter Tryz.func20, Tryz.ntmps20
  go_wp2_with (at_make; refine wpList_make_full _ rfl _ _ 39 rfl w.heap.size 77 i0 _ 5 Tryz.underlying39 hi hz0 hz1 .i64 .i64 _ _ n rfl rfl rfl rfl (by rw [hz2]; omega) (by unfold maxLen; omega) (Nat.le_refl _) ?_)
  intro w1 hown hgrow
  have em : (madeCells (#[Value.slice none 0 0, .int .i64 0, .int .i64 0, .int .i64 0, .int .i64 0] : Array Value) (n * 5)).toList = rowsK n 5 (fun _ b => (#[Value.slice none 0 0, .int .i64 0, .int .i64 0, .int .i64 0, .int .i64 0] : Array Value).getD b default) := madeK #[Value.slice none 0 0, .int .i64 0, .int .i64 0, .int .i64 0, .int .i64 0] n (by decide)
  have hown2 : w1.ownsRow w.heap.size 77 5 (.slice (some ⟨w.heap.size, 0, none⟩) n n) n (rowsK n 5 (fun _ b => (#[Value.slice none 0 0, .int .i64 0, .int .i64 0, .int .i64 0, .int .i64 0] : Array Value).getD b default)) := by rw [← em]; exact hown
  have HO1 : Hid (OwSs w1 (.slice (some ⟨w.heap.size, 0, none⟩) n n) (a.take 0 ++ List.replicate (a.length - 0) Scn.zero) (blk (.slice (some ⟨w.heap.size, 0, none⟩) n n))) := by
    rw [List.take_zero, List.nil_append, Nat.sub_zero, unhide HN]
    exact OwG.made (zc := fun b => (#[Value.slice none 0 0, .int .i64 0, .int .i64 0, .int .i64 0, .int .i64 0] : Array Value).getD b default) (fun w => ⟨⟨rfl, rfl, rfl, rfl⟩, OwI.nil .i64 3 w⟩) hown2
  have HG1 := hide hgrow
  have HF1 : Hid (∀ g ∈ blk (.slice (some ⟨w.heap.size, 0, none⟩) n n), w.heap.size ≤ g) := fun g hg => by have : w.heap.size = g := Option.some.inj (mem_blk.1 hg); omega
  clear hown hown2 hgrow hi hz0 hz1 hz2 em
  go_wp2
  go_loopw [4] (fun iv wr => ∃ (i : Nat) (F : List Nat), i ≤ n ∧ iv = .int .i64 i ∧ Hid (OwSs wr (.slice (some ⟨w.heap.size, 0, none⟩) n n) (a.take i ++ List.replicate (a.length - i) Scn.zero) F) ∧ Hid F.Nodup ∧ Hid (∀ g ∈ F, w.heap.size ≤ g) ∧ Hid (w.grownBy wr none)) (fun iv _ => n - (intOf iv).toNat)
  case atStart => exact ⟨0, _, Nat.zero_le _, rfl, HO1, blk_nodup _, HF1, HG1⟩
  case round =>
    clear HO1 HG1 HF1
    obtain ⟨i, F, hin, rfl, ho, hnd, hF, hg⟩ := hrel
    by_cases hlt : i < n
    · have hia : i < a.length := by rw [unhide HN]; exact hlt
      obtain ⟨b, off, c, rfl, k0, k1, q0⟩ := unhide HEL i hia
      obtain ⟨d0, d1, d2, d3, d4⟩ := rowScan (fun j hj => (unhide hg).cell (k0 j hj) (by simp)) k1
      have HT := hide (toScanC wr (scV (c 0) a[i]) a[i] ⟨_, rfl, RdI.st .i64 _ _ _ _ q0 (unhide hg)⟩ (Nat.le_trans (unhide HSE i hia) (unhide HS)))
      obtain ⟨vo, vc, ev, -⟩ := q0
      rw [ev] at HT d0
      unfold scV at HT
      have hiI : (i : Int) < (n : Int) := by omega
      obtain ⟨A, HAA⟩ : ∃ A, Hid (a[i] = A) := ⟨_, hide rfl⟩
      rw [unhide HAA] at HT d0 d1 d2 d3 d4
      clear k0 k1 ev
      go_wp2_with fail
      refine (unhide HT).mono ?_
      rintro e w2 ⟨u', F', rfl, ⟨v2, rfl, p2⟩, n2, b2, g2⟩
      obtain ⟨p3, rfl⟩ := p2
      obtain ⟨uo, uc, rfl⟩ := own_form p3
      have ho2 := OwSs.ok.keep (unhide ho) g2
      have hll : i < (a.take i ++ List.replicate (a.length - i) Scn.zero).length := by simp; omega
      have ell : (a.take i ++ List.replicate (a.length - i) Scn.zero).length = n := by have := unhide HN; simp; omega
      obtain ⟨g0, cap0, c2, Fi, e0, hg0, hg0n, cc, ff, hpi, hni, hsi, -, hback⟩ := OwG.turn OwScE.ok ho2 (unhide hnd) i hll
      obtain ⟨e1, -, -⟩ := Value.slice.inj e0
      obtain rfl : w.heap.size = g0 := by simpa using e1
      have x0 := cc 0 (by omega)
      have x1 := cc 1 (by omega)
      have x2 := cc 2 (by omega)
      have x3 := cc 3 (by omega)
      have x4 := cc 4 (by omega)
      rw [Nat.add_zero] at x0
      have y0 := ff (i * 5)
      have y1 := ff (i * 5 + 1)
      have y2 := ff (i * 5 + 2)
      have y3 := ff (i * 5 + 3)
      have y4 := ff (i * 5 + 4)
      obtain ⟨vn, HVN⟩ : ∃ vn, Hid (A.cs.length = vn) := ⟨_, rfl⟩
      rw [unhide HVN] at p3 b2 ⊢
      have hsz := (unhide hg).size
      have hgW : w.heap.size < wr.heap.size := OwSs.ok.lt _ _ _ _ (unhide ho) _ hg0
      have hblk : ∀ x, (Value.slice uo vn uc).ownBlock = some x → wr.heap.size ≤ x := fun x hx => b2 x (mem_blk.2 hx)
      have GS := grown_trans (grown_trans (grown_trans (grown_trans (grown_set w2 w.heap.size (i * 5) (.slice uo vn uc)) (grown_set _ w.heap.size (i * 5 + 1) (.int .i64 A.fr))) (grown_set _ w.heap.size (i * 5 + 2) (.int .i64 A.to))) (grown_set _ w.heap.size (i * 5 + 3) (.int .i64 A.hi))) (grown_set _ w.heap.size (i * 5 + 4) (.int .i64 A.lo))
      obtain ⟨F3, o3, n3, m3⟩ := hback _ (five (.slice uo vn uc) (.int .i64 A.fr) (.int .i64 A.to) (.int .i64 A.hi) (.int .i64 A.lo)) A (blk (.slice uo vn uc)) (Wr.ofRow GS (fun x e => by have : w.heap.size = x := Option.some.inj e; simp [this])) (fun U h => by rw [ell] at h ⊢; exact own5 h i _ _ _ _ _) ⟨⟨rfl, rfl, rfl, rfl⟩, by
          show _ ∧ _
          refine ⟨?_, rfl⟩
          rw [unhide HVN]
          exact own_beneath p3 GS (fun p q h1 h2 => by have := hblk p h1; have : w.heap.size = q := Option.some.inj h2; omega)⟩ (blk_nodup _) (fun x hx => .inr (fun hx2 => by
        have h1 := hblk x (mem_blk.1 hx)
        have h2 := OwSs.ok.lt _ _ _ _ (unhide ho) x hx2
        omega))
      rw [← unhide HAA, fillZ Scn.zero a i hia, unhide HAA] at o3
      have HO3 := hide o3
      have HF3 : Hid (∀ g ∈ F3, w.heap.size ≤ g) := fun g hg3 => by
        rcases m3 g hg3 with h | h
        · exact unhide hF g h
        · have := hblk g (mem_blk.1 h); omega
      have HG3 := hide (grown_new (grown_trans (unhide hg) g2) GS (fun k e => by have : w.heap.size = k := Option.some.inj e; omega))
      have HN3 := hide n3
      clear ho2 o3 n3 m3 p3 n2 b2 g2 HT ho hnd hF hg e0 e1 hback hpi hni hsi cc ff hblk GS hg0 hg0n d0 d1 d2 d3 d4
      unfold scV
      go_wp2
      go_roundw
      case rel => exact ⟨i + 1, F3, by omega, by go_num, HO3, HN3, HF3, HG3⟩
      case measure => simp [intOf]; omega
    · obtain rfl : i = n := by omega
      have HO4 : Hid (OwSs wr (.slice (some ⟨w.heap.size, 0, none⟩) i i) a F) := by
        have h := unhide ho
        rw [← unhide HN, List.take_length, Nat.sub_self, List.replicate_zero, List.append_nil, unhide HN] at h
        exact h
      clear ho
      go_wp2
      go_ret
      exact ⟨_, F, rfl, unhide HO4, unhide hnd, unhide hF, unhide hg⟩

end Go.Proofs.YtjkokbijnaodnaaGreat

namespace Go.Proofs.YtjkokbijnaodnaaGreat
open Go.RowKit

def cntSc (a : Scn) : Nat := lenI a.cs + 4
def mkSc (a : Scn) (k : Int) : Scn := ⟨mkI a.cs k, k + lenI a.cs, k + lenI a.cs + 1, k + lenI a.cs + 2, k + lenI a.cs + 3⟩

theorem own4 {w : World} {g cap n base : Nat} {e : TypeId} {U : Nat → Nat → Value} (h : w.ownsRow base e 5 (.slice (some ⟨g, 0, none⟩) n cap) n (rowsK n 5 U)) (i : Nat) (v a b c d : Value) (hv : U i 0 = v) :
    ((((w.setCell ⟨g, i * 5 + 1, none⟩ a).setCell ⟨g, i * 5 + 2, none⟩ b).setCell ⟨g, i * 5 + 3, none⟩ c).setCell ⟨g, i * 5 + 4, none⟩ d).ownsRow base e 5 (.slice (some ⟨g, 0, none⟩) n cap) n (rowsK n 5 (fun p q => if p = i then five v a b c d q else U p q)) := by
  have s1 := (h.stored (i * 5 + 1) a).1
  rw [rowsK_set n 5 _ i 1 a (by omega)] at s1
  have s2 := (s1.stored (i * 5 + 2) b).1
  rw [rowsK_set n 5 _ i 2 b (by omega)] at s2
  have s3 := (s2.stored (i * 5 + 3) c).1
  rw [rowsK_set n 5 _ i 3 c (by omega)] at s3
  have s4 := (s3.stored (i * 5 + 4) d).1
  rw [rowsK_set n 5 _ i 4 d (by omega)] at s4
  have e9 : rowsK n 5 (fun p q => if p = i then five v a b c d q else U p q) = rowsK n 5 (fun p q => if p = i ∧ q = 4 then d else if p = i ∧ q = 3 then c else if p = i ∧ q = 2 then b else if p = i ∧ q = 1 then a else U p q) := by
    apply rowsK_congr
    intro p q _ hq
    by_cases ep : p = i
    · subst ep
      have : q = 0 ∨ q = 1 ∨ q = 2 ∨ q = 3 ∨ q = 4 := by omega
      rcases this with rfl | rfl | rfl | rfl | rfl <;> simp [five, hv]
    · simp [ep]
  rw [e9]
  exact s4

end Go.Proofs.YtjkokbijnaodnaaGreat

namespace Go.Proofs.YtjkokbijnaodnaaGreat
open Go.RowKit

def RdScZ (w : World) (u : Value) (a : Scn) : Prop := ∃ v, u = scV v a ∧ RdZ (RdI .i64) w v a.cs
def RdScEZ (w : World) (c : Nat → Value) (a : Scn) : Prop := scC c a ∧ RdZ (RdI .i64) w (c 0) a.cs
abbrev RdSsZ := RdZ (RdG 5 RdScEZ)
theorem RdSsZ.rd {w : World} {v : Value} {L : List Scn} (h : RdSsZ w v L) : RdSs w v L := by
  obtain ⟨⟨ao, cap, e, hel⟩, _⟩ := h
  exact ⟨ao, cap, e, fun i hi => by obtain ⟨b, off, c, e1, h1, h2, h3, _⟩ := hel i hi; exact ⟨b, off, c, e1, h1, h2, h3⟩⟩

set_option maxHeartbeats 800000 in
theorem szScanC (w : World) (u : Value) (a : Scn) (left : Nat) (hq : RdScZ w u a) (hl : left ≤ 1048576) (r : Int) (HR : Hid ((if szSc a ≤ left then (left : Int) - szSc a else -1) = r)) :
    Calls Tryz.prog 35 #[u, .int .i64 left] w fun e w' => e = .returned (.int .i64 r) ∧ w.grownBy w' none := by
  obtain ⟨v, rfl, hv⟩ := hq
  obtain ⟨cs, fr, to, hi, lo⟩ := a
  obtain ⟨⟨vo, vc, rfl, hr⟩, hm⟩ := id hv
  clear hr hm
  dsimp only at hv ⊢
  obtain ⟨vn, HVN⟩ : ∃ vn, Hid (cs.length = vn) := ⟨_, rfl⟩
  rw [unhide HVN] at hv ⊢
  have G0 : w.grownBy (w.alloc (.cells #[.slice vo vn vc, .int .i64 fr, .int .i64 to, .int .i64 hi, .int .i64 lo] 68)) none := World.grownBy_alloc _ _ _
  obtain ⟨c0, -, -, -, -⟩ := scanCells (heap_alloc_new w (.cells #[.slice vo vn vc, .int .i64 fr, .int .i64 to, .int .i64 hi, .int .i64 lo] 68))
  have HT := hide (szIntSC _ (.slice vo vn vc) cs left ⟨RdI.st .i64 _ _ _ _ hv.1 G0, hv.2⟩ hl)
  have e1 : (if lenI cs ≤ left then (left : Int) - lenI cs else -1) = r := unhide HR
  rw [e1] at HT
  have hrr : r = -1 ∨ (0 ≤ r ∧ r ≤ 1048576) := by
    rw [← e1]
    split
    · right; omega
    · left; rfl
  have HG0 := hide G0
  clear hv G0 e1 HR
  unfold scV
  dsimp only
  go_enter Tryz.func35, Tryz.ntmps35
  go_wp2_with fail
  refine (unhide HT).mono ?_
  rintro e w1 ⟨rfl, rfl⟩
  rcases hrr with rfl | h
  · go_wp2
    go_ret
    exact ⟨rfl, unhide HG0⟩
  · have hd : decide (r < 0) = false := decide_eq_false (by omega)
    go_wp2
    go_ret
    exact ⟨rfl, unhide HG0⟩

set_option maxRecDepth 20000 in
set_option maxHeartbeats 1600000 in
theorem szScanSC (w : World) (u : Value) (a : List Scn) (left : Nat) (hq : RdSsZ w u a) (hl : left ≤ 1048576) (res : Int) (HRES : Hid ((if szR szSc a ≤ left then (left : Int) - szR szSc a else -1) = res)) :
    Calls Tryz.prog 12 #[u, .int .i64 left] w fun e w' => e = .returned (.int .i64 res) ∧ w.grownBy w' none := by
  obtain ⟨⟨ao, cap, rfl, hel⟩, hmx⟩ := hq
  unfold maxLen at hmx
  have HEL := hide hel
  obtain ⟨n, HN⟩ : ∃ n, Hid (a.length = n) := ⟨_, rfl⟩
  have HSZ : Hid (szR szSc a = n + cntR szSc a) := by unfold Hid szR; rw [unhide HN]; rfl
  rw [unhide HN] at hmx ⊢
  have e1 := i64_in ((left : Int) - (n : Int)) (by omega)
  clear hel
  by_cases hnl : n ≤ left
  · have hd : decide ((left : Int) - (n : Int) < 0) = false := decide_eq_false (by omega)
    go_enter Tryz.func12, Tryz.ntmps12
    go_wp2
    go_loopw [1, 5] (fun kv iv wr => ∃ (i c : Nat), i ≤ n ∧ iv = .int .i64 i ∧ kv = .int .i64 ((left : Int) - (n : Int) - (c : Int)) ∧ n + c ≤ left ∧ Hid (cntR szSc (a.take i) = c) ∧ Hid (w.grownBy wr none)) (fun _ iv _ => n - (intOf iv).toNat)
    case atStart => exact ⟨0, 0, Nat.zero_le _, rfl, by simp, by omega, rfl, World.grownBy.refl _ _⟩
    case round =>
      obtain ⟨i, c, hin, rfl, rfl, hcl, hc, hg⟩ := hrel
      by_cases hlt : i < n
      · have hia : i < a.length := by rw [unhide HN]; exact hlt
        have hnx := cntR_next szSc a i hia
        have hle := cntR_le szSc a (i + 1)
        rw [unhide hc] at hnx
        obtain ⟨b, off, cf, rfl, k0, k1, q0⟩ := unhide HEL i hia
        obtain ⟨d0, d1, d2, d3, d4⟩ := rowScan (fun j hj => (unhide hg).cell (k0 j hj) (by simp)) k1
        obtain ⟨lf, hlf⟩ : ∃ lf : Nat, left - n - c = lf := ⟨_, rfl⟩
        have e2 : (left : Int) - (n : Int) - (c : Int) = (lf : Int) := by omega
        obtain ⟨ce, HCE⟩ : ∃ ce, Hid (szSc a[i] = ce) := ⟨_, hide rfl⟩
        obtain ⟨rr, HRR⟩ : ∃ rr : Int, Hid ((if szSc a[i] ≤ lf then (lf : Int) - szSc a[i] else -1) = rr) := ⟨_, hide rfl⟩
        have HT := hide (szScanC wr (scV (cf 0) a[i]) a[i] lf ⟨_, rfl, RdI.st .i64 _ _ _ _ q0.1 (unhide hg), q0.2⟩ (by omega) rr HRR)
        obtain ⟨⟨vo, vc, ev, -⟩, -⟩ := q0
        rw [ev] at HT d0
        unfold scV at HT
        have hrr := unhide HRR
        rw [unhide HCE] at hnx hrr
        have hiI : (i : Int) < (n : Int) := by omega
        obtain ⟨A, HAA⟩ : ∃ A, Hid (a[i] = A) := ⟨_, hide rfl⟩
        rw [unhide HAA] at HT d0 d1 d2 d3 d4
        obtain ⟨vn, HVN⟩ : ∃ vn, Hid (A.cs.length = vn) := ⟨_, rfl⟩
        rw [unhide HVN] at HT d0
        rw [e2]
        clear k0 k1 ev HCE HRR
        by_cases hce : ce ≤ lf
        · rw [if_pos hce] at hrr
          have hneg : decide (rr < 0) = false := decide_eq_false (by omega)
          have HNX := hide hnx
          have HRQ : Hid (rr = (left : Int) - (n : Int) - ((c + ce : Nat) : Int)) := by unfold Hid; omega
          clear hnx hle hrr
          go_wp2_with fail
          refine (unhide HT).mono ?_
          rintro e w2 ⟨rfl, g2⟩
          have HG2 := hide (grown_trans (unhide hg) g2)
          clear HT g2 hg d0 d1 d2 d3 d4
          go_wp2
          go_roundw
          case rel => exact ⟨i + 1, c + ce, by omega, by go_num, by rw [unhide HRQ], by omega, HNX, HG2⟩
          case measure => simp [intOf]; omega
        · rw [if_neg hce] at hrr
          have hres : res = -1 := by
            rw [← unhide HRES, if_neg]
            rw [unhide HSZ]
            omega
          subst hres
          subst hrr
          clear hnx hle
          go_wp2_with fail
          refine (unhide HT).mono ?_
          rintro e w2 ⟨rfl, g2⟩
          have HG2 := hide (grown_trans (unhide hg) g2)
          clear HT g2 hg d0 d1 d2 d3 d4
          go_wp2
          go_ret
          exact ⟨rfl, unhide HG2⟩
      · obtain rfl : i = n := by omega
        have hct : cntR szSc a = c := by rw [← unhide hc, ← unhide HN, cntR_all]
        have hres : res = (left : Int) - (i : Int) - (c : Int) := by
          rw [← unhide HRES, unhide HSZ, hct, if_pos (by omega)]
          omega
        subst hres
        clear hc hct
        go_wp2
        go_ret
        exact ⟨rfl, unhide hg⟩
  · have hd : decide ((left : Int) - (n : Int) < 0) = true := decide_eq_true (by omega)
    have hres : res = -1 := by
      rw [← unhide HRES, if_neg]
      rw [unhide HSZ]
      omega
    subst hres
    go_enter Tryz.func12, Tryz.ntmps12
    go_wp2
    go_ret
    exact ⟨rfl, World.grownBy.refl _ _⟩

end Go.Proofs.YtjkokbijnaodnaaGreat

namespace Go.Proofs.YtjkokbijnaodnaaGreat
open Go.RowKit Go.ChangeShapes Go.WideShapes Go.Deep

set_option maxRecDepth 100000 in
theorem scan_cells {H : Type} {enc : TypeId × Value → H} {W : World} {base : Nat} {spare : Nat → Bool} {held : Bool} {fuel : Nat} {c0 c1 c2 c3 c4 : Value} {x : DataW H × List MemPlace}
    (h : DataW.trod enc Tryz.prog W base spare held fuel 68 [c0, c1, c2, c3, c4] = some x) :
    ∃ a : Scn, c1 = .int .i64 a.fr ∧ c2 = .int .i64 a.to ∧ c3 = .int .i64 a.hi ∧ c4 = .int .i64 a.lo ∧ RdZ (RdI .i64) W c0 a.cs := by
  have ci : Tryz.prog.cellsOf 3 = 1 := by kernel_rfl
  have cl : Tryz.prog.cellsOf 64 = 1 := by kernel_rfl
  obtain ⟨xs, n, _, _, hl, hlen, hfld⟩ := DataW.trod_struct Tryz.underlying68 h
  obtain ⟨y0, y1, y2, y3, y4, rfl⟩ : ∃ y0 y1 y2 y3 y4, xs = [y0, y1, y2, y3, y4] := by
    match xs, hlen with
    | [y0, y1, y2, y3, y4], _ => exact ⟨y0, y1, y2, y3, y4, rfl⟩
  have g0 := hfld 0 _ rfl
  have g1 := hfld 1 _ rfl
  have g2 := hfld 2 _ rfl
  have g3 := hfld 3 _ rfl
  have g4 := hfld 4 _ rfl
  simp [ci, cl] at g0 g1 g2 g3 g4
  obtain ⟨cs, hcs⟩ := open_intRow Tryz.underlying64 H enc W base spare held n c0 y0 g0
  obtain ⟨fr, e1, _, _⟩ := DataW.trod_int Tryz.underlying3 g1
  obtain ⟨to, e2, _, _⟩ := DataW.trod_int Tryz.underlying3 g2
  obtain ⟨hi, e3, _, _⟩ := DataW.trod_int Tryz.underlying3 g3
  obtain ⟨lo, e4, _, _⟩ := DataW.trod_int Tryz.underlying3 g4
  simp at e1 e2 e3 e4
  subst e1 e2 e3 e4
  exact ⟨⟨cs, fr, to, hi, lo⟩, rfl, rfl, rfl, rfl, hcs⟩

set_option maxRecDepth 100000 in
theorem scan_open {H : Type} {enc : TypeId × Value → H} {W : World} {base b0 : Nat} {spare : Nat → Bool} {held : Bool} {r : Reach} {v : Value} {d : DataW H} {ps : List MemPlace}
    (hv : Value.okWide Tryz.prog W r b0 68 v) (h : DataW.Trod enc Tryz.prog W base spare held 68 v d ps) : ∃ v0 a, v = scV v0 a ∧ RdScZ W (scV v0 a) a := by
  obtain ⟨cs, rfl, hsz⟩ := okWide_struct Tryz.underlying68 hv
  have hc5 : cs.size = 5 := by rw [hsz]; kernel_rfl
  obtain ⟨l⟩ := cs
  match l, hc5 with
  | [a0, a1, a2, a3, a4], _ =>
    obtain ⟨fuel, hf⟩ := h
    obtain ⟨a, rfl, rfl, rfl, rfl, hr⟩ := scan_cells (c0 := a0) hf
    exact ⟨a0, a, rfl, a0, rfl, hr⟩

theorem scans_open {H : Type} {enc : TypeId × Value → H} {W : World} {base : Nat} {spare : Nat → Bool} {held : Bool} {v : Value} {d : DataW H} {ps : List MemPlace}
    (h : DataW.Trod enc Tryz.prog W base spare held 29 v d ps) (hv : ∃ a l c, v = .slice a l c) : ∃ S, RdSsZ W v S := by
  obtain ⟨a1, l1, c1, rfl⟩ := hv
  obtain ⟨fuel, hf⟩ := h
  have ce : Tryz.prog.cellsOf 68 = 5 := by kernel_rfl
  rcases open_slice Tryz.underlying29 hf with ⟨hcs, _⟩ | ⟨a, len, cap, m, k, D, Pl, hcs, _, hle, hmx, hmm, _, hall⟩
  · simp [Value.cells] at hcs
    obtain ⟨rfl, rfl, rfl⟩ := hcs
    exact ⟨[], ⟨none, 0, rfl, fun i hi => absurd hi (by simp)⟩, by unfold maxLen; simp⟩
  · simp [Value.cells] at hcs
    obtain ⟨rfl, rfl, rfl⟩ := hcs
    have hlm : l1 ≤ m := by rw [hmm]; split <;> omega
    have hch : ∀ i, ∃ q : (Nat → Value) × Scn, i < l1 → (∀ j, j < 5 → W.cell? (a.add (i * 5 + j)) = some (q.1 j)) ∧ RdScEZ W q.1 q.2 := by
      intro i
      by_cases hi : i < l1
      · obtain ⟨cs', h1, h2⟩ := hall i (by omega)
        rw [ce] at h1
        obtain ⟨_, hlen', hcell⟩ := World.cells?_some h1
        match cs', hlen' with
        | [v0, v1, v2, v3, v4], _ =>
          obtain ⟨q, rfl, rfl, rfl, rfl, hr⟩ := scan_cells h2
          refine ⟨(fun j => if j = 0 then v0 else if j = 1 then .int .i64 q.fr else if j = 2 then .int .i64 q.to else if j = 3 then .int .i64 q.hi else .int .i64 q.lo, q), fun _ => ⟨fun j hj => ?_, ⟨rfl, rfl, rfl, rfl⟩, hr⟩⟩
          have hcj := hcell j (by simpa using hj)
          rw [add_add] at hcj
          have : j = 0 ∨ j = 1 ∨ j = 2 ∨ j = 3 ∨ j = 4 := by omega
          rcases this with rfl | rfl | rfl | rfl | rfl <;> simpa using hcj
      · exact ⟨(fun _ => default, Scn.zero), fun h => absurd h hi⟩
    obtain ⟨Q, hQ⟩ := Classical.axiomOfChoice hch
    refine ⟨(List.range l1).map fun i => (Q i).2, ⟨some a, c1, by simp, fun i hi => ?_⟩, by simp; omega⟩
    have hi' : i < l1 := by simpa using hi
    obtain ⟨b, off, spot⟩ := a
    have hspot : spot = none := by
      have := (hQ 0 (by omega)).1 0 (by omega)
      simpa [Addr.add] using World.cell?_spot this
    subst hspot
    refine ⟨b, off, (Q i).1, rfl, fun j hj => ?_, ?_⟩
    · have := (hQ i hi').1 j hj
      rw [Addr.add_lit] at this
      rw [Nat.add_assoc]
      exact this
    · simp only [List.getElem_map, List.getElem_range]
      exact (hQ i hi').2

end Go.Proofs.YtjkokbijnaodnaaGreat

namespace Go.Proofs.YtjkokbijnaodnaaGreat
open Go.RowKit

theorem own_rdC {w : World} {base : Nat} {e : TypeId} {ao : Option Addr} {n cap : Nat} {C : Nat → Nat → Int} (h : w.ownsRow base e 4 (.slice ao n cap) n (rowsK n 4 (compCells C))) : RdC w ao n C := by
  intro i hi
  obtain ⟨g, rfl, _, _⟩ := own_at h (by omega)
  refine ⟨g, 0, rfl, fun j hj => ?_⟩
  rw [Nat.zero_add, h.cellAt _ (place_lt hi hj), rowsK_get n 4 _ i j hi hj]
  rfl

theorem Tryz.info53 : (Tryz.prog.info? 53).map (fun i => (i.zero, i.size, i.bytes)) = some (some (.agg #[.int .i64 0, .int .i64 0, .int .i64 0, .int .i64 0]), 4, 32) := by kernel_rfl

set_option maxHeartbeats 800000 in
theorem toComp (c0 c1 c2 c3 : Int) (w : World) :
    Calls Tryz.prog 65 #[.agg #[.int .i64 c0, .int .i64 c1, .int .i64 c2, .int .i64 c3]] w fun e w' => e = .returned (.agg #[.int .i64 c0, .int .i64 c1, .int .i64 c2, .int .i64 c3]) ∧ w.grownBy w' none := by
  go_enter Tryz.func65, Tryz.ntmps65
  go_wp2
  refine bodyPost_ret (v := .agg #[.int .i64 c0, .int .i64 c1, .int .i64 c2, .int .i64 c3]) (by simp [results, Tryz.results65, go_sem]) rfl ⟨rfl, ?_⟩
  exact grown_alloc (grown_alloc (grown_alloc (World.grownBy.refl _ _) _) _) _

/-- The copy's cells behind k rounds. -/
def compPart (C : Nat → Nat → Int) (k : Nat) : Nat → Nat → Value := fun i j => if i < k then .int .i64 (C i j) else .int .i64 0
theorem compPart_set (C : Nat → Nat → Int) (n k : Nat) (c0 c1 c2 c3 : Int) (h0 : C k 0 = c0) (h1 : C k 1 = c1) (h2 : C k 2 = c2) (h3 : C k 3 = c3) :
    ((((rowsK n 4 (compPart C k)).set (k * 4) (.int .i64 c0)).set (k * 4 + 1) (.int .i64 c1)).set (k * 4 + 2) (.int .i64 c2)).set (k * 4 + 3) (.int .i64 c3) = rowsK n 4 (compPart C (k + 1)) := by
  have e0 := rowsK_set n 4 (compPart C k) k 0 (.int .i64 c0) (by omega)
  rw [Nat.add_zero] at e0
  rw [e0, rowsK_set _ _ _ k 1 _ (by omega), rowsK_set _ _ _ k 2 _ (by omega), rowsK_set _ _ _ k 3 _ (by omega)]
  apply rowsK_congr
  intro i j _ hj
  have hj4 : j = 0 ∨ j = 1 ∨ j = 2 ∨ j = 3 := by omega
  by_cases e1 : i = k
  · subst e1
    rcases hj4 with rfl | rfl | rfl | rfl <;> simp [compPart, h0, h1, h2, h3]
  · by_cases e2 : i < k
    · rcases hj4 with rfl | rfl | rfl | rfl <;> simp [compPart, e1, e2, show i < k + 1 by omega]
    · rcases hj4 with rfl | rfl | rfl | rfl <;> simp [compPart, e1, e2, show ¬ i < k + 1 by omega]

set_option maxHeartbeats 1600000 in
theorem toCompS (ao : Option Addr) (n cap : Nat) (C : Nat → Nat → Int) (w : World) (hr : RdC w ao n C) (hn : n ≤ 4194304) :
    Calls Tryz.prog 41 #[.slice ao n cap] w fun e w' => e = .returned (.slice (some ⟨w.heap.size, 0, none⟩) n n) ∧
      w'.ownsRow w.heap.size 53 4 (.slice (some ⟨w.heap.size, 0, none⟩) n n) n (rowsK n 4 (compCells C)) ∧ w.grownBy w' none := by
  obtain ⟨i0, hi, hz0, hz1, hz2⟩ := info_parts Tryz.info53
  have HR := hide hr
  clear hr
  go_enter Tryz.func41, Tryz.ntmps41
  go_wp2_with (at_make; refine wpList_make_full _ rfl _ _ 35 rfl w.heap.size 53 i0 (.agg #[.int .i64 0, .int .i64 0, .int .i64 0, .int .i64 0]) 4 Tryz.underlying35 hi hz0 hz1 .i64 .i64 _ _ n rfl rfl rfl rfl (by rw [hz2]; omega) (by unfold maxLen; omega) (Nat.le_refl _) ?_)
  intro w1 hown hgrow
  have hown0 : w1.ownsRow w.heap.size 53 4 (.slice (some ⟨w.heap.size, 0, none⟩) n n) n (rowsK n 4 (compPart C 0)) := by
    have e := madeK #[.int .i64 0, .int .i64 0, .int .i64 0, .int .i64 0] n (by decide)
    have e2 : rowsK n 4 (compPart C 0) = (madeCells #[Value.int .i64 0, .int .i64 0, .int .i64 0, .int .i64 0] (n * 4)).toList := by
      rw [show (n * 4) = n * (#[Value.int .i64 0, .int .i64 0, .int .i64 0, .int .i64 0] : Array Value).size from rfl, e]
      apply rowsK_congr
      intro i j _ hj
      have : j = 0 ∨ j = 1 ∨ j = 2 ∨ j = 3 := by have : j < 4 := hj; omega
      rcases this with rfl | rfl | rfl | rfl <;> simp [compPart]
    rw [e2]; exact hown
  clear hown hi hz0 hz1 hz2
  go_wp2
  go_loopw [4] (fun i wr => ∃ k : Nat, k ≤ n ∧ i = .int .i64 k ∧ wr.ownsRow w.heap.size 53 4 (.slice (some ⟨w.heap.size, 0, none⟩) n n) n (rowsK n 4 (compPart C k)) ∧ w.grownBy wr none) (fun i _ => n - (intOf i).toNat)
  case atStart => exact ⟨0, Nat.zero_le _, rfl, hown0, hgrow⟩
  case round =>
    obtain ⟨k, hk, rfl, hok, hgk⟩ := hrel
    clear hown0 hgrow
    by_cases hlt : k < n
    · obtain ⟨b, off, rfl, hc⟩ := (unhide HR) k hlt
      have hc' := fun j hj => hgk.cell (hc j hj) (by simp)
      have h0 := hc' 0 (by omega)
      have h1 := hc' 1 (by omega)
      have h2 := hc' 2 (by omega)
      have h3 := hc' 3 (by omega)
      rw [Nat.add_zero] at h0
      clear hc hc'
      have HSET := hide (compPart_set C n k (C k 0) (C k 1) (C k 2) (C k 3) rfl rfl rfl rfl)
      generalize C k 0 = c0 at *
      generalize C k 1 = c1 at *
      generalize C k 2 = c2 at *
      generalize C k 3 = c3 at *
      go_wp2_with fail
      refine (toComp c0 c1 c2 c3 wr).mono ?_
      rintro e w2 ⟨rfl, g2⟩
      have hok2 := own_grown hok g2
      have hG2 := grown_trans hgk g2
      have f0 := hok2.frozenAt (k * 4)
      have f1 := hok2.frozenAt (k * 4 + 1)
      have f2 := hok2.frozenAt (k * 4 + 2)
      have f3 := hok2.frozenAt (k * 4 + 3)
      have hold : ∀ j, j < n * 4 → ∃ u, w2.cell? ⟨w.heap.size, j, none⟩ = some u := fun j hj => by rw [hok2.cellAt j hj]; exact ⟨_, List.getElem?_eq_getElem (by rw [hok2.1]; omega)⟩
      obtain ⟨v0, hv0⟩ := hold (k * 4) (by omega)
      obtain ⟨v1, hv1⟩ := hold (k * 4 + 1) (by omega)
      obtain ⟨v2, hv2⟩ := hold (k * 4 + 2) (by omega)
      obtain ⟨v3, hv3⟩ := hold (k * 4 + 3) (by omega)
      have s0 := hok2.stored (k * 4) (.int .i64 c0)
      have s1 := s0.1.stored (k * 4 + 1) (.int .i64 c1)
      have s2 := s1.1.stored (k * 4 + 2) (.int .i64 c2)
      have s3 := s2.1.stored (k * 4 + 3) (.int .i64 c3)
      have hg' := grown_new hG2 (grown_trans (grown_trans (grown_trans s0.2 s1.2) s2.2) s3.2) (by intro g e; simp at e; omega)
      have HS := hide s3.1
      rw [unhide HSET] at HS
      have HG := hide hg'
      clear s0 s1 s2 s3 hok hok2 hgk hG2 hold g2 h0 h1 h2 h3 hg' HSET
      go_wp2
      go_roundw
      case rel => exact ⟨k + 1, by omega, by go_num, unhide HS, unhide HG⟩
      case measure => simp [intOf]; omega
    · have hkn : k = n := by omega
      subst hkn
      go_wp2
      go_ret
      refine ⟨rfl, ?_, hgk⟩
      have e : rowsK k 4 (compCells C) = rowsK k 4 (compPart C k) := rowsK_congr (fun i j hi' _ => by unfold compPart compCells; rw [if_pos hi'])
      rw [e]; exact hok

theorem szCompS (ao : Option Addr) (n cap : Nat) (left r : Int) (w : World) (h0 : 0 ≤ left) (h1 : left ≤ 1048576) (hm : n ≤ 9223372036854775807) (hr : Hid ((if (n : Int) ≤ left then left - n else -1) = r)) :
    Calls Tryz.prog 32 #[.slice ao n cap, .int .i64 left] w fun e w' => e = .returned (.int .i64 r) ∧ w = w' := by
  by_cases h : (n : Int) ≤ left
  · have e : left - n = r := by have := unhide hr; rwa [if_pos h] at this
    subst e
    clear hr
    have hn : ¬ (left - (n : Int) < 0) := by omega
    go_enter Tryz.func32, Tryz.ntmps32
    go_wp2
    go_ret
    exact ⟨rfl, rfl⟩
  · have e : -1 = r := by have := unhide hr; rwa [if_neg h] at this
    subst e
    clear hr
    have hn : left - (n : Int) < 0 := by omega
    go_enter Tryz.func32, Tryz.ntmps32
    go_wp2
    go_ret
    exact ⟨rfl, rfl⟩

theorem szFrame (p wd ht rs : Int) (ao : Option Addr) (n cap : Nat) (left r : Int) (w : World) (h0 : 0 ≤ left) (h1 : left ≤ 1048576) (hm : n ≤ 9223372036854775807) (hr : Hid ((if (n : Int) ≤ left then left - n else -1) = r)) :
    Calls Tryz.prog 9 #[.agg #[.int .i64 p, .int .i64 wd, .int .i64 ht, .int .i64 rs, .slice ao n cap], .int .i64 left] w fun e w' => e = .returned (.int .i64 r) ∧ w.grownBy w' none := by
  by_cases h : (n : Int) ≤ left
  · have e : left - n = r := by have := unhide hr; rwa [if_pos h] at this
    subst e
    have hn : ¬ (left - (n : Int) < 0) := by omega
    go_enter Tryz.func9, Tryz.ntmps9
    go_wp2_with fail
    refine (szCompS ao n cap left _ _ h0 h1 hm hr).mono ?_
    rintro e w1 ⟨rfl, rfl⟩
    go_wp2
    go_ret
    exact ⟨rfl, grown_alloc (World.grownBy.refl _ _) _⟩
  · have e : -1 = r := by have := unhide hr; rwa [if_neg h] at this
    subst e
    go_enter Tryz.func9, Tryz.ntmps9
    go_wp2_with fail
    refine (szCompS ao n cap left _ _ h0 h1 hm hr).mono ?_
    rintro e w1 ⟨rfl, rfl⟩
    go_wp2
    go_ret
    exact ⟨rfl, grown_alloc (World.grownBy.refl _ _) _⟩

set_option maxHeartbeats 800000 in
theorem eqComp (c0 c1 c2 c3 : Int) (w : World) :
    Calls Tryz.prog 73 #[.agg #[.int .i64 c0, .int .i64 c1, .int .i64 c2, .int .i64 c3], .agg #[.int .i64 c0, .int .i64 c1, .int .i64 c2, .int .i64 c3]] w fun e w' => e = .returned (.bool true) ∧ w.grownBy w' none := by
  have h0 : (c0 != c0) = false := by simp
  have h1 : (c1 != c1) = false := by simp
  have h2 : (c2 != c2) = false := by simp
  have h3 : (c3 != c3) = false := by simp
  go_enter Tryz.func73, Tryz.ntmps73
  go_wp2
  go_ret
  exact ⟨rfl, grown_alloc (grown_alloc (World.grownBy.refl _ _) _) _⟩

set_option maxHeartbeats 1600000 in
theorem eqCompS (ao bo : Option Addr) (n cap cap' : Nat) (C : Nat → Nat → Int) (w : World) (hx : RdC w ao n C) (hy : RdC w bo n C) (hn : n ≤ 4194304) :
    Calls Tryz.prog 55 #[.slice ao n cap, .slice bo n cap'] w fun e w' => e = .returned (.bool true) ∧ w.grownBy w' none := by
  have HX := hide hx
  have HY := hide hy
  clear hx hy
  have hne : ((n : Int) != n) = false := by simp
  go_enter Tryz.func55, Tryz.ntmps55
  go_wp2
  go_loopw [5] (fun i wr => ∃ k : Nat, k ≤ n ∧ i = .int .i64 k ∧ w.grownBy wr none) (fun i _ => n - (intOf i).toNat)
  case atStart => exact ⟨0, Nat.zero_le _, rfl, World.grownBy.refl _ _⟩
  case round =>
    obtain ⟨k, hk, rfl, hgk⟩ := hrel
    by_cases hlt : k < n
    · obtain ⟨b, off, rfl, hc⟩ := (unhide HX) k hlt
      obtain ⟨b', off', rfl, hd⟩ := (unhide HY) k hlt
      have hc' := fun j hj => hgk.cell (hc j hj) (by simp)
      have hd' := fun j hj => hgk.cell (hd j hj) (by simp)
      have a0 := hc' 0 (by omega)
      have a1 := hc' 1 (by omega)
      have a2 := hc' 2 (by omega)
      have a3 := hc' 3 (by omega)
      have b0 := hd' 0 (by omega)
      have b1 := hd' 1 (by omega)
      have b2 := hd' 2 (by omega)
      have b3 := hd' 3 (by omega)
      rw [Nat.add_zero] at a0 b0
      clear hc hc' hd hd'
      generalize C k 0 = c0 at *
      generalize C k 1 = c1 at *
      generalize C k 2 = c2 at *
      generalize C k 3 = c3 at *
      have hik : (k : Int) < (n : Int) := by omega
      go_wp2
      go_region_with (go_at_call 73; refine (eqComp c0 c1 c2 c3 _).mono ?_; rintro e w2 ⟨rfl, g2⟩)
      all_goals
        go_wp2
        go_roundw
        case rel => exact ⟨k + 1, by omega, by go_num, grown_trans (grown_drew hgk) g2⟩
        case measure => simp [intOf]; omega
    · go_wp2
      go_ret
      exact ⟨rfl, hgk⟩

set_option maxHeartbeats 1600000 in
theorem eqFrame (p wd ht rs : Int) (ao bo : Option Addr) (n cap cap' : Nat) (C : Nat → Nat → Int) (w : World) (hx : RdC w ao n C) (hy : RdC w bo n C) (hn : n ≤ 4194304) :
    Calls Tryz.prog 27 #[.agg #[.int .i64 p, .int .i64 wd, .int .i64 ht, .int .i64 rs, .slice ao n cap], .agg #[.int .i64 p, .int .i64 wd, .int .i64 ht, .int .i64 rs, .slice bo n cap']] w fun e w' => e = .returned (.bool true) ∧ w.grownBy w' none := by
  have HX := hide hx
  have HY := hide hy
  clear hx hy
  have h0 : (p != p) = false := by simp
  have h1 : (wd != wd) = false := by simp
  have h2 : (ht != ht) = false := by simp
  have h3 : (rs != rs) = false := by simp
  have G : Hid (w.grownBy ((w.alloc (.cells #[.int .i64 p, .int .i64 wd, .int .i64 ht, .int .i64 rs, .slice ao n cap] 37)).alloc (.cells #[.int .i64 p, .int .i64 wd, .int .i64 ht, .int .i64 rs, .slice bo n cap'] 37)) none) := grown_alloc (grown_alloc (World.grownBy.refl _ _) _) _
  go_enter Tryz.func27, Tryz.ntmps27
  go_wp2_with fail
  refine (eqCompS ao bo n cap cap' C _ ((unhide HX).grown (unhide G)) ((unhide HY).grown (unhide G)) hn).mono ?_
  rintro e w1 ⟨rfl, g1⟩
  go_wp2
  go_ret
  exact ⟨rfl, grown_trans (unhide G) g1⟩

end Go.Proofs.YtjkokbijnaodnaaGreat

namespace Go.Proofs.YtjkokbijnaodnaaGreat
open Go.RowKit

theorem frameCells {w : World} {g : Nat} {a b c d v : Value} {t : TypeId} (hb : w.heap[g]? = some (.cells #[a, b, c, d, v] t (0, 0))) :
    w.cell? ⟨g, 0, none⟩ = some a ∧ w.cell? ⟨g, 1, none⟩ = some b ∧ w.cell? ⟨g, 2, none⟩ = some c ∧ w.cell? ⟨g, 3, none⟩ = some d ∧ w.cell? ⟨g, 4, none⟩ = some v :=
  ⟨by rw [cell_of_row w _ 0 _ _ (0, 0) hb]; rfl, by rw [cell_of_row w _ 1 _ _ (0, 0) hb]; rfl, by rw [cell_of_row w _ 2 _ _ (0, 0) hb]; rfl, by rw [cell_of_row w _ 3 _ _ (0, 0) hb]; rfl, by rw [cell_of_row w _ 4 _ _ (0, 0) hb]; rfl⟩

set_option maxHeartbeats 1600000 in
theorem toFrame (p wd ht rs : Int) (ao : Option Addr) (n cap : Nat) (C : Nat → Nat → Int) (w : World) (hr : RdC w ao n C) (hn : n ≤ 4194304) :
    Calls Tryz.prog 17 #[.agg #[.int .i64 p, .int .i64 wd, .int .i64 ht, .int .i64 rs, .slice ao n cap]] w fun e w' => ∃ g, e = .returned (.agg #[.int .i64 p, .int .i64 wd, .int .i64 ht, .int .i64 rs, .slice (some ⟨g, 0, none⟩) n n]) ∧
      w'.ownsRow w.heap.size 53 4 (.slice (some ⟨g, 0, none⟩) n n) n (rowsK n 4 (compCells C)) ∧ w.grownBy w' none := by
  have HR := hide hr
  clear hr
  obtain ⟨W3, hW3⟩ : ∃ W3, (((w.alloc (.cells #[.int .i64 p, .int .i64 wd, .int .i64 ht, .int .i64 rs, .slice ao n cap] 24)).alloc (.cells #[.int .i64 0, .int .i64 0, .int .i64 0, .int .i64 0, .slice none 0 0] 37)).alloc (.cells #[.int .i64 p, .int .i64 wd, .int .i64 ht, .int .i64 rs, .slice none 0 0] 37)) = W3 := ⟨_, rfl⟩
  have G0 : w.grownBy W3 none := by rw [← hW3]; exact grown_alloc (grown_alloc (grown_alloc (World.grownBy.refl _ _) _) _) _
  have b1 : W3.heap[w.heap.size + 1]? = some (.cells #[.int .i64 0, .int .i64 0, .int .i64 0, .int .i64 0, .slice none 0 0] 37 (0, 0)) := by
    rw [← hW3, Below.heap_alloc _ _ _ (by simp)]
    have := heap_alloc_new (w.alloc (.cells #[.int .i64 p, .int .i64 wd, .int .i64 ht, .int .i64 rs, .slice ao n cap] 24)) (.cells #[.int .i64 0, .int .i64 0, .int .i64 0, .int .i64 0, .slice none 0 0] 37)
    simpa using this
  have b2 : W3.heap[w.heap.size + 1 + 1]? = some (.cells #[.int .i64 p, .int .i64 wd, .int .i64 ht, .int .i64 rs, .slice none 0 0] 37 (0, 0)) := by
    rw [← hW3]
    have := heap_alloc_new ((w.alloc (.cells #[.int .i64 p, .int .i64 wd, .int .i64 ht, .int .i64 rs, .slice ao n cap] 24)).alloc (.cells #[.int .i64 0, .int .i64 0, .int .i64 0, .int .i64 0, .slice none 0 0] 37)) (.cells #[.int .i64 p, .int .i64 wd, .int .i64 ht, .int .i64 rs, .slice none 0 0] 37)
    simpa using this
  have hsz : W3.heap.size = w.heap.size + 3 := by rw [← hW3]; simp
  have HW := hide hW3
  have B1 := hide b1
  have B2 := hide b2
  have HSZ := hide hsz
  have HG0 := hide G0
  clear hW3 b1 b2 hsz G0
  go_enter Tryz.func17, Tryz.ntmps17
  go_wp2_with fail
  rw [unhide HW]
  refine (toCompS ao n cap C W3 ((unhide HR).grown (unhide HG0)) hn).mono ?_
  rintro e w1 ⟨rfl, o1, g1⟩
  have G1 := grown_trans (unhide HG0) g1
  have hz := unhide HSZ
  have e1 := (g1.block (w.heap.size + 1) (by omega) (by simp)).trans (unhide B1)
  have e2 := (g1.block (w.heap.size + 1 + 1) (by omega) (by simp)).trans (unhide B2)
  have hge : w.heap.size + 3 ≤ W3.heap.size := by omega
  have O1 := hide (own_base o1 (show w.heap.size ≤ W3.heap.size by omega))
  have HG1 := hide G1
  clear HW hz HSZ B1 B2 HG0 HR G1 o1 g1
  generalize W3.heap.size = gx at *
  have c0 : w1.cell? ⟨w.heap.size + 1 + 1, 0, none⟩ = some (.int .i64 p) := by rw [cell_of_row w1 _ 0 _ _ (0, 0) e2]; rfl
  have c1 : w1.cell? ⟨w.heap.size + 1 + 1, 1, none⟩ = some (.int .i64 wd) := by rw [cell_of_row w1 _ 1 _ _ (0, 0) e2]; rfl
  have c2 : w1.cell? ⟨w.heap.size + 1 + 1, 2, none⟩ = some (.int .i64 ht) := by rw [cell_of_row w1 _ 2 _ _ (0, 0) e2]; rfl
  have c3 : w1.cell? ⟨w.heap.size + 1 + 1, 3, none⟩ = some (.int .i64 rs) := by rw [cell_of_row w1 _ 3 _ _ (0, 0) e2]; rfl
  have c4 : w1.cell? ⟨w.heap.size + 1 + 1, 4, none⟩ = some (.slice none 0 0) := by rw [cell_of_row w1 _ 4 _ _ (0, 0) e2]; rfl
  have f4 : w1.frozen? ⟨w.heap.size + 1 + 1, 4, none⟩ = false := frozen_of_row w1 _ 4 _ _ e2
  have d0 : w1.cell? ⟨w.heap.size + 1, 0, none⟩ = some (.int .i64 0) := by rw [cell_of_row w1 _ 0 _ _ (0, 0) e1]; rfl
  have d1 : w1.cell? ⟨w.heap.size + 1, 1, none⟩ = some (.int .i64 0) := by rw [cell_of_row w1 _ 1 _ _ (0, 0) e1]; rfl
  have d2 : w1.cell? ⟨w.heap.size + 1, 2, none⟩ = some (.int .i64 0) := by rw [cell_of_row w1 _ 2 _ _ (0, 0) e1]; rfl
  have d3 : w1.cell? ⟨w.heap.size + 1, 3, none⟩ = some (.int .i64 0) := by rw [cell_of_row w1 _ 3 _ _ (0, 0) e1]; rfl
  have d4 : w1.cell? ⟨w.heap.size + 1, 4, none⟩ = some (.slice none 0 0) := by rw [cell_of_row w1 _ 4 _ _ (0, 0) e1]; rfl
  have k0 : w1.frozen? ⟨w.heap.size + 1, 0, none⟩ = false := frozen_of_row w1 _ 0 _ _ e1
  have k1 : w1.frozen? ⟨w.heap.size + 1, 1, none⟩ = false := frozen_of_row w1 _ 1 _ _ e1
  have k2 : w1.frozen? ⟨w.heap.size + 1, 2, none⟩ = false := frozen_of_row w1 _ 2 _ _ e1
  have k3 : w1.frozen? ⟨w.heap.size + 1, 3, none⟩ = false := frozen_of_row w1 _ 3 _ _ e1
  have k4 : w1.frozen? ⟨w.heap.size + 1, 4, none⟩ = false := frozen_of_row w1 _ 4 _ _ e1
  clear e1 e2
  go_wp2
  have hk : ∀ (W : World), W.ownsRow w.heap.size 53 4 (.slice (some ⟨gx, 0, none⟩) n n) n (rowsK n 4 (compCells C)) → ∀ (b j : Nat) (u : Value), b < gx → (W.setCell ⟨b, j, none⟩ u).ownsRow w.heap.size 53 4 (.slice (some ⟨gx, 0, none⟩) n n) n (rowsK n 4 (compCells C)) :=
    fun W h b j u hb => own_sameAt h (fun g e => by simp [Value.ownBlock] at e; subst e; exact Below.heap_setCell _ _ _ _ (by show gx ≠ b; omega))
  have hq : ∀ (W : World) (b j : Nat) (u : Value), w.grownBy W none → w.heap.size ≤ b → w.grownBy (W.setCell ⟨b, j, none⟩ u) none := fun W b j u h hb => grown_new h (grown_set W b j u) (fun g e => by simp at e; omega)
  refine bodyPost_ret (v := .agg #[.int .i64 p, .int .i64 wd, .int .i64 ht, .int .i64 rs, .slice (some ⟨gx, 0, none⟩) n n]) (by simp [results, Tryz.results17, go_sem, d0, d1, d2, d3, d4]) rfl ⟨gx, rfl, ?_, ?_⟩
  · exact hk _ (hk _ (hk _ (hk _ (hk _ (hk _ (unhide O1) _ _ _ (by omega)) _ _ _ (by omega)) _ _ _ (by omega)) _ _ _ (by omega)) _ _ _ (by omega)) _ _ _ (by omega)
  · exact hq _ _ _ _ (hq _ _ _ _ (hq _ _ _ _ (hq _ _ _ _ (hq _ _ _ _ (hq _ _ _ _ (unhide HG1) (by omega)) (by omega)) (by omega)) (by omega)) (by omega)) (by omega)

end Go.Proofs.YtjkokbijnaodnaaGreat

namespace Go.Proofs.YtjkokbijnaodnaaGreat

/-- The greatest of the numbers j of the first k components, at least a. -/
def mostA (a : Int) (C : Nat → Nat → Int) (j : Nat) : Nat → Int
  | 0 => a
  | k + 1 => max (mostA a C j k) (C k j)
/-- n by d, rounded up. -/
def upI (n d : Int) : Int := (n + d - 1).tdiv d

theorem upI_pos {n d : Int} (hn : 1 ≤ n) (hd : 1 ≤ d) : 1 ≤ upI n d ∧ upI n d ≤ n := by
  unfold upI
  rw [Int.tdiv_eq_ediv_of_nonneg (by omega)]
  constructor
  · exact (Int.le_ediv_iff_mul_le (by omega)).2 (by omega)
  · refine Int.le_of_lt_add_one ((Int.ediv_lt_iff_lt_mul (by omega)).2 ?_)
    have h1 : 0 ≤ (n - 1) * (d - 1) := Int.mul_nonneg (by omega) (by omega)
    have e : (n + 1) * d = (n - 1) * (d - 1) + n + 2 * d - 1 := by
      rw [Int.add_mul, Int.sub_mul, Int.mul_sub, Int.mul_sub]; omega
    omega

theorem upI_eight {n : Int} (h0 : 1 ≤ n) (h1 : n ≤ 8192) : 1 ≤ upI n 8 ∧ upI n 8 ≤ 1024 := by
  unfold upI
  rw [Int.tdiv_eq_ediv_of_nonneg (by omega)]
  omega

theorem mostA_congr {a : Int} {C D : Nat → Nat → Int} {j : Nat} : ∀ k, (∀ i, i < k → C i = D i) → mostA a C j k = mostA a D j k
  | 0, _ => rfl
  | k + 1, h => by simp only [mostA]; rw [mostA_congr k (fun i hi => h i (by omega)), h k (by omega)]
theorem mostA_le {a : Int} {C : Nat → Nat → Int} {j : Nat} {m : Int} (ha : a ≤ m) : ∀ k, (∀ i, i < k → C i j ≤ m) → mostA a C j k ≤ m
  | 0, _ => ha
  | k + 1, h => by simp only [mostA]; have := mostA_le ha k (fun i hi => h i (by omega)); have := h k (by omega); omega
theorem mostA_ge {a : Int} {C : Nat → Nat → Int} {j : Nat} : ∀ k, a ≤ mostA a C j k
  | 0 => Int.le_refl _
  | k + 1 => by simp only [mostA]; have := mostA_ge (a := a) (C := C) (j := j) k; omega
theorem mostA_at {a : Int} {C : Nat → Nat → Int} {j : Nat} : ∀ k i, i < k → C i j ≤ mostA a C j k
  | k + 1, i, h => by
    simp only [mostA]
    by_cases e : i = k
    · subst e; omega
    · have := mostA_at (a := a) (C := C) (j := j) k i (by omega); omega
/-- From 0 or from 1 on: the same where a component has at least 1. -/
theorem mostA_one {C : Nat → Nat → Int} {j : Nat} : ∀ k, 1 ≤ k → (∀ i, i < k → 1 ≤ C i j) → mostA 0 C j k = mostA 1 C j k
  | 1, _, h => by simp only [mostA]; have := h 0 (by omega); omega
  | k + 2, _, h => by
    have ih := mostA_one (k + 1) (by omega) (fun i hi => h i (by omega))
    show max (mostA 0 C j (k + 1)) (C (k + 1) j) = max (mostA 1 C j (k + 1)) (C (k + 1) j)
    rw [ih]

theorem okTo_comp {C : Nat → Nat → Int} : ∀ {n : Nat}, okTo C n = true → ∀ i, i < n → compB (C i) = true
  | n + 1, h, i, hi => by
    simp only [okTo, Bool.and_eq_true] at h
    by_cases e : i = n
    · subst e; exact h.2.1
    · exact okTo_comp h.1 i (by omega)

/-- What is so of a frame that is ok. -/
structure Geo (wd ht : Int) (n : Nat) (C : Nat → Nat → Int) (mh mv : Int) : Prop where
  n1 : 1 ≤ n
  n4 : n ≤ 4
  wd : 1 ≤ wd ∧ wd ≤ 256
  ht : 1 ≤ ht ∧ ht ≤ 256
  ch : ∀ i, i < n → 1 ≤ C i 1 ∧ C i 1 ≤ 4
  cv : ∀ i, i < n → 1 ≤ C i 2 ∧ C i 2 ≤ 4
  h0 : mostA 0 C 1 n = mh
  h1 : mostA 1 C 1 n = mh
  v0 : mostA 0 C 2 n = mv
  v1 : mostA 1 C 2 n = mv
  hb : 1 ≤ mh ∧ mh ≤ 4
  vb : 1 ≤ mv ∧ mv ≤ 4

theorem geo_of {p wd ht rs : Int} {n : Nat} {C : Nat → Nat → Int} (h : frameB p wd ht rs n C = true) : Geo wd ht n C (mostA 1 C 1 n) (mostA 1 C 2 n) := by
  simp only [frameB, Bool.and_eq_true] at h
  obtain ⟨hh, hc⟩ := h
  obtain ⟨_, hw, hht, _, _⟩ := headB_facts hh
  simp only [compsB, Bool.and_eq_true, decide_eq_true_eq] at hc
  obtain ⟨hn, hok, _⟩ := hc
  have ch : ∀ i, i < n → 1 ≤ C i 1 ∧ C i 1 ≤ 4 := fun i hi => (compB_bounds (okTo_comp hok i hi)).2.1
  have cv : ∀ i, i < n → 1 ≤ C i 2 ∧ C i 2 ≤ 4 := fun i hi => (compB_bounds (okTo_comp hok i hi)).2.2.1
  exact ⟨by omega, by omega, hw, hht, ch, cv, mostA_one n (by omega) (fun i hi => (ch i hi).1), rfl, mostA_one n (by omega) (fun i hi => (cv i hi).1), rfl,
    ⟨mostA_ge n, mostA_le (by omega) n (fun i hi => (ch i hi).2)⟩, ⟨mostA_ge n, mostA_le (by omega) n (fun i hi => (cv i hi).2)⟩⟩
theorem Geo.congr {wd ht : Int} {n : Nat} {C D : Nat → Nat → Int} {mh mv : Int} (h : Geo wd ht n C mh mv) (e : ∀ i, i < n → D i = C i) : Geo wd ht n D mh mv :=
  ⟨h.n1, h.n4, h.wd, h.ht, fun i hi => by rw [e i hi]; exact h.ch i hi, fun i hi => by rw [e i hi]; exact h.cv i hi, (mostA_congr n e).trans h.h0, (mostA_congr n e).trans h.h1, (mostA_congr n e).trans h.v0, (mostA_congr n e).trans h.v1, h.hb, h.vb⟩

/-- A side times a share of it. -/
theorem mul_share {a b : Int} (ha : 1 ≤ a ∧ a ≤ 1024) (hb : 1 ≤ b ∧ b ≤ 4) : 1 ≤ a * b ∧ a * b ≤ 4096 := by
  obtain ⟨b0, b1⟩ := hb
  have : b = 1 ∨ b = 2 ∨ b = 3 ∨ b = 4 := by omega
  rcases this with rfl | rfl | rfl | rfl <;> omega

end Go.Proofs.YtjkokbijnaodnaaGreat

namespace Go.Proofs.YtjkokbijnaodnaaGreat

/-- The first k numbers are components of n, rising. -/
def compsTo (n : Nat) (cs : List Int) : Nat → Bool
  | 0 => true
  | k + 1 => compsTo n cs k && (decide (0 ≤ cs.getD k 0 ∧ cs.getD k 0 ≤ (n : Int) - 1) && decide (k = 0 ∨ cs.getD (k - 1) 0 < cs.getD k 0))
def okComps (n : Nat) (cs : List Int) : Bool := compsTo n cs cs.length && decide (0 < cs.length)

theorem compsTo_false {n : Nat} {cs : List Int} {k : Nat} (h : compsTo n cs k = false) : ∀ m, k ≤ m → compsTo n cs m = false := by
  intro m hm
  induction m with
  | zero => obtain rfl : k = 0 := by omega
            exact h
  | succ m ih =>
    by_cases e : k = m + 1
    · subst e; exact h
    · simp [compsTo, ih (by omega)]
theorem compsTo_true {n : Nat} {cs : List Int} {m : Nat} (h : compsTo n cs m = true) : ∀ k, k ≤ m → compsTo n cs k = true := by
  intro k hk
  cases hc : compsTo n cs k with
  | true => rfl
  | false => rw [compsTo_false hc m hk] at h; exact h
theorem compsTo_at {n : Nat} {cs : List Int} {m : Nat} (h : compsTo n cs m = true) (k : Nat) (hk : k < m) : (0 ≤ cs.getD k 0 ∧ cs.getD k 0 ≤ (n : Int) - 1) ∧ (k = 0 ∨ cs.getD (k - 1) 0 < cs.getD k 0) := by
  have := compsTo_true h (k + 1) (by omega)
  simp only [compsTo, Bool.and_eq_true, decide_eq_true_eq] at this
  exact this.2
theorem compsTo_ge {n : Nat} {cs : List Int} {m : Nat} (h : compsTo n cs m = true) : ∀ k, k < m → (k : Int) ≤ cs.getD k 0
  | 0, hk => (compsTo_at h 0 hk).1.1
  | k + 1, hk => by
    have ih := compsTo_ge h k (by omega)
    rcases (compsTo_at h (k + 1) hk).2 with e | e
    · omega
    · simp only [Nat.add_sub_cancel] at e; omega
theorem compsTo_len {n : Nat} {cs : List Int} {m : Nat} (h : compsTo n cs m = true) : m ≤ n := by
  cases m with
  | zero => omega
  | succ m =>
    have h1 := compsTo_ge h m (by omega)
    have h2 := (compsTo_at h m (by omega)).1.2
    omega

/-- A place: a component, a row, a column. -/
abbrev Pl := Int × Int × Int
/-- z places of a row from a column on. -/
def zTo (c a b : Int) : Nat → List Pl
  | 0 => []
  | z + 1 => zTo c a b z ++ [(c, a, b + z)]
/-- y rows of H places. -/
def yTo (c a b : Int) (H : Nat) : Nat → List Pl
  | 0 => []
  | y + 1 => yTo c a b H y ++ zTo c (a + y) b H
/-- A unit's places of its first i components. -/
def iTo (C : Nat → Nat → Int) (cs : List Int) (r k : Nat) : Nat → List Pl
  | 0 => []
  | i + 1 => iTo C cs r k i ++ yTo (cs.getD i 0) (r * C (cs.getD i 0).toNat 2) (k * C (cs.getD i 0).toNat 1) (C (cs.getD i 0).toNat 1).toNat (C (cs.getD i 0).toNat 2).toNat
def kTo (C : Nat → Nat → Int) (cs : List Int) (r : Nat) : Nat → List (List Pl)
  | 0 => []
  | k + 1 => kTo C cs r k ++ [iTo C cs r k cs.length]
def rTo (C : Nat → Nat → Int) (cs : List Int) (W : Nat) : Nat → List (List Pl)
  | 0 => []
  | r + 1 => rTo C cs W r ++ kTo C cs r W
def k1To (c : Int) (r : Nat) : Nat → List (List Pl)
  | 0 => []
  | k + 1 => k1To c r k ++ [[(c, (r : Int), (k : Int))]]
def r1To (c : Int) (W : Nat) : Nat → List (List Pl)
  | 0 => []
  | r + 1 => r1To c W r ++ k1To c r W
/-- The units of an order. -/
def unitsG (wd ht : Int) (n : Nat) (C : Nat → Nat → Int) (cs : List Int) : List (List Pl) :=
  if cs.length = 1 then r1To (cs.getD 0 0) (upI (upI (wd * C (cs.getD 0 0).toNat 1) (mostA 1 C 1 n)) 8).toNat (upI (upI (ht * C (cs.getD 0 0).toNat 2) (mostA 1 C 2 n)) 8).toNat
  else rTo C cs (upI wd (8 * mostA 1 C 1 n)).toNat (upI ht (8 * mostA 1 C 2 n)).toNat
/-- The order of a frame and components, whatever they are. -/
def orderG (b : Bool) (wd ht : Int) (n : Nat) (C : Nat → Nat → Int) (cs : List Int) : List (List Pl) := if b && okComps n cs then unitsG wd ht n C cs else []

theorem zTo_len (c a b : Int) : ∀ z, (zTo c a b z).length = z
  | 0 => rfl
  | z + 1 => by simp [zTo, zTo_len c a b z]
theorem yTo_len (c a b : Int) (H : Nat) : ∀ y, (yTo c a b H y).length = y * H
  | 0 => by simp [yTo]
  | y + 1 => by simp [yTo, yTo_len c a b H y, zTo_len, Nat.succ_mul]
theorem kTo_len (C : Nat → Nat → Int) (cs : List Int) (r : Nat) : ∀ k, (kTo C cs r k).length = k
  | 0 => rfl
  | k + 1 => by simp [kTo, kTo_len C cs r k]
theorem rTo_len (C : Nat → Nat → Int) (cs : List Int) (W : Nat) : ∀ r, (rTo C cs W r).length = r * W
  | 0 => by simp [rTo]
  | r + 1 => by simp [rTo, rTo_len C cs W r, kTo_len, Nat.succ_mul]
theorem k1To_len (c : Int) (r : Nat) : ∀ k, (k1To c r k).length = k
  | 0 => rfl
  | k + 1 => by simp [k1To, k1To_len c r k]
theorem r1To_len (c : Int) (W : Nat) : ∀ r, (r1To c W r).length = r * W
  | 0 => by simp [r1To]
  | r + 1 => by simp [r1To, r1To_len c W r, k1To_len, Nat.succ_mul]

/-- The cells of places. -/
def plCells : List Pl → List Value
  | [] => []
  | p :: ps => .int .i64 p.1 :: .int .i64 p.2.1 :: .int .i64 p.2.2 :: plCells ps
theorem plCells_app : ∀ (xs ys : List Pl), plCells (xs ++ ys) = plCells xs ++ plCells ys
  | [], ys => rfl
  | p :: xs, ys => by simp [plCells, plCells_app xs ys]
theorem plCells_len : ∀ xs : List Pl, (plCells xs).length = xs.length * 3
  | [] => rfl
  | p :: xs => by simp [plCells, plCells_len xs]; omega
theorem plCells_one : ∀ xs : List Pl, ∀ v ∈ plCells xs, v.oneCell' = true
  | [], v, h => by simp [plCells] at h
  | p :: xs, v, h => by
    simp [plCells] at h
    rcases h with rfl | rfl | rfl | h
    · rfl
    · rfl
    · rfl
    · exact plCells_one xs v h
theorem plCells_at : ∀ (xs : List Pl) (i : Nat) (h : i < xs.length), (plCells xs)[i * 3]? = some (.int .i64 (xs[i].1)) ∧ (plCells xs)[i * 3 + 1]? = some (.int .i64 (xs[i].2.1)) ∧ (plCells xs)[i * 3 + 2]? = some (.int .i64 (xs[i].2.2))
  | p :: xs, 0, _ => ⟨rfl, rfl, rfl⟩
  | p :: xs, i + 1, h => by
    have ih := plCells_at xs i (by simpa using h)
    simp only [plCells, Nat.succ_mul]
    refine ⟨?_, ?_, ?_⟩
    · simpa using ih.1
    · have e : i * 3 + 3 + 1 = (i * 3 + 1) + 1 + 1 + 1 := by omega
      rw [e]; simpa using ih.2.1
    · have e : i * 3 + 3 + 2 = (i * 3 + 2) + 1 + 1 + 1 := by omega
      rw [e]; simpa using ih.2.2

end Go.Proofs.YtjkokbijnaodnaaGreat

namespace Go.Proofs.YtjkokbijnaodnaaGreat
open Go.RowKit

theorem between (n lo hi : Int) (t : Bool) (ht : Hid (decide (lo ≤ n ∧ n ≤ hi) = t)) (w : World) :
    Calls Tryz.prog 38 #[.int .i64 n, .int .i64 lo, .int .i64 hi] w fun e w' => e = .returned (.bool t) ∧ w' = w := by
  by_cases h1 : lo ≤ n
  · by_cases h2 : n ≤ hi
    · have e : t = true := by rw [← unhide ht]; simp [h1, h2]
      subst e
      go_enter Tryz.func38, Tryz.ntmps38
      go_wp2
      go_ret
      exact ⟨by simp, rfl⟩
    · have e : t = false := by rw [← unhide ht]; simp [h2]
      subst e
      go_enter Tryz.func38, Tryz.ntmps38
      go_wp2
      go_ret
      exact ⟨by simp, rfl⟩
  · have e : t = false := by rw [← unhide ht]; simp [h1]
    subst e
    have hd : decide (lo ≤ n) = false := by simpa using h1
    go_enter Tryz.func38, Tryz.ntmps38
    go_wp2
    go_ret
    exact ⟨rfl, rfl⟩

end Go.Proofs.YtjkokbijnaodnaaGreat

namespace Go.Proofs.YtjkokbijnaodnaaGreat
open Go.RowKit

set_option maxRecDepth 100000 in
set_option maxHeartbeats 3200000 in
theorem specFrameOk (p wd ht rs : Int) (ao : Option Addr) (n cap : Nat) (C : Nat → Nat → Int) (w : World) (hr : RdC w ao n C) (t : Bool) (HFB : Hid (frameB p wd ht rs n C = t)) :
    Calls Tryz.prog 36 #[.agg #[.int .i64 p, .int .i64 wd, .int .i64 ht, .int .i64 rs, .slice ao n cap]] w fun e w' => e = .returned (.bool t) ∧ w.grownBy w' none := by
  have HR := hide hr
  clear hr
  have G0 : Hid (w.grownBy (w.alloc (.cells #[.int .i64 p, .int .i64 wd, .int .i64 ht, .int .i64 rs, .slice ao n cap] 37)) none) := grown_alloc (World.grownBy.refl _ _) _
  have HB := hide (heap_alloc_new w (.cells #[.int .i64 p, .int .i64 wd, .int .i64 ht, .int .i64 rs, .slice ao n cap] 37))
  have hgs : w.heap.size < (w.alloc (.cells #[.int .i64 p, .int .i64 wd, .int .i64 ht, .int .i64 rs, .slice ao n cap] 37)).heap.size := by simp
  have hcase : (p = 8 ∨ p = 12) ∨ ((p != 8) = true ∧ (p != 12) = true ∧ (p == 8) = false ∧ (p == 12) = false) := by
    by_cases e8 : p = 8
    · exact .inl (.inl e8)
    · by_cases e12 : p = 12
      · exact .inl (.inr e12)
      · exact .inr (by simp [e8, e12])
  rcases hcase with hp | ⟨n8, n12, m8, m12⟩
  · obtain ⟨t1, HT1⟩ : ∃ t1, Hid (decide (1 ≤ wd ∧ wd ≤ 256) = t1) := ⟨_, rfl⟩
    obtain ⟨t2, HT2⟩ : ∃ t2, Hid (decide (1 ≤ ht ∧ ht ≤ 256) = t2) := ⟨_, rfl⟩
    obtain ⟨t4, HT4⟩ : ∃ t4, Hid (decide (0 ≤ rs ∧ rs ≤ 255) = t4) := ⟨_, rfl⟩
    obtain ⟨t5, HT5⟩ : ∃ t5, Hid (decide (1 ≤ (n : Int) ∧ (n : Int) ≤ 4) = t5) := ⟨_, rfl⟩
    have HP : Hid (t = ((t1 && (t2 && (decide (wd * ht ≤ 16384) && t4))) && (t5 && (okTo C n && decide (sumHV C n ≤ 10))))) := by
      have e : (p == 8 || p == 12) = true := by rcases hp with rfl | rfl <;> rfl
      unfold Hid; rw [← unhide HFB, frameB, compsB, headB, e, unhide HT1, unhide HT2, unhide HT4, unhide HT5, Bool.true_and]
    clear HFB
    cases t1
    · have HF : Hid (t = false) := by unfold Hid; rw [unhide HP]; rfl
      rcases hp with rfl | rfl
      all_goals
        go_enter Tryz.func36, Tryz.ntmps36
        go_wp2_with fail
        refine (between wd 1 256 _ HT1 _).mono ?_
        rintro e w1 ⟨rfl, rfl⟩
        go_wp2
        go_ret
        exact ⟨ret_bool (by rw [unhide HF]), unhide G0⟩
    · cases t2
      · have HF : Hid (t = false) := by unfold Hid; rw [unhide HP]; rfl
        rcases hp with rfl | rfl
        all_goals
          go_enter Tryz.func36, Tryz.ntmps36
          go_wp2_with fail
          refine (between wd 1 256 _ HT1 _).mono ?_
          rintro e w1 ⟨rfl, rfl⟩
          go_wp2_with fail
          refine (between ht 1 256 _ HT2 _).mono ?_
          rintro e w1 ⟨rfl, rfl⟩
          go_wp2
          go_ret
          exact ⟨ret_bool (by rw [unhide HF]), unhide G0⟩
      · have hb1 := of_decide_eq_true (unhide HT1)
        have hb2 := of_decide_eq_true (unhide HT2)
        have hm := mul_side hb1 hb2
        have hwr := i64_in (wd * ht) (by omega)
        clear hm hb1 hb2
        by_cases hle : wd * ht ≤ 16384
        · have HLE := hide hle
          have hdm : decide (16384 < wd * ht) = false := decide_eq_false (by omega)
          rw [decide_eq_true hle] at HP
          clear hle
          cases t4
          · have HF : Hid (t = false) := by unfold Hid; rw [unhide HP]; rfl
            rcases hp with rfl | rfl
            all_goals
              go_enter Tryz.func36, Tryz.ntmps36
              go_wp2_with fail
              refine (between wd 1 256 _ HT1 _).mono ?_
              rintro e w1 ⟨rfl, rfl⟩
              go_wp2_with fail
              refine (between ht 1 256 _ HT2 _).mono ?_
              rintro e w1 ⟨rfl, rfl⟩
              go_wp2_with fail
              refine (between rs 0 255 _ HT4 _).mono ?_
              rintro e w1 ⟨rfl, rfl⟩
              go_wp2
              go_ret
              exact ⟨ret_bool (by rw [unhide HF]), unhide G0⟩
          · cases t5
            · have HF : Hid (t = false) := by unfold Hid; rw [unhide HP]; rfl
              rcases hp with rfl | rfl
              all_goals
                go_enter Tryz.func36, Tryz.ntmps36
                go_wp2_with fail
                refine (between wd 1 256 _ HT1 _).mono ?_
                rintro e w1 ⟨rfl, rfl⟩
                go_wp2_with fail
                refine (between ht 1 256 _ HT2 _).mono ?_
                rintro e w1 ⟨rfl, rfl⟩
                go_wp2_with fail
                refine (between rs 0 255 _ HT4 _).mono ?_
                rintro e w1 ⟨rfl, rfl⟩
                go_wp2_with fail
                refine (between n 1 4 _ HT5 _).mono ?_
                rintro e w1 ⟨rfl, rfl⟩
                go_wp2
                go_ret
                exact ⟨ret_bool (by rw [unhide HF]), unhide G0⟩
            · have hn4 : n ≤ 4 := by have := of_decide_eq_true (unhide HT5); omega
              have HR2 : Hid (t = (okTo C n && decide (sumHV C n ≤ 10))) := by unfold Hid; rw [unhide HP]; rfl
              clear HP
              rcases hp with rfl | rfl
              all_goals
                go_enter Tryz.func36, Tryz.ntmps36
                go_wp2_with fail
                refine (between wd 1 256 _ HT1 _).mono ?_
                rintro e w1 ⟨rfl, rfl⟩
                go_wp2_with fail
                refine (between ht 1 256 _ HT2 _).mono ?_
                rintro e w1 ⟨rfl, rfl⟩
                go_wp2_with fail
                refine (between rs 0 255 _ HT4 _).mono ?_
                rintro e w1 ⟨rfl, rfl⟩
                go_wp2_with fail
                refine (between n 1 4 _ HT5 _).mono ?_
                rintro e w1 ⟨rfl, rfl⟩
                go_wp2
                clear hwr hdm
                generalize (w.alloc (.cells #[.int .i64 _, .int .i64 wd, .int .i64 ht, .int .i64 rs, .slice ao n cap] 37)) = wx at *
                go_loopw [3, 4] (fun b i wr => ∃ k : Nat, k ≤ n ∧ i = .int .i64 k ∧ b = .int .i64 (sumHV C k) ∧ okTo C k = true ∧ wx.grownBy wr none) (fun _ i _ => n - (intOf i).toNat)
                case atStart => exact ⟨0, Nat.zero_le _, rfl, rfl, rfl, World.grownBy.refl _ _⟩
                case round =>
                  obtain ⟨k, hk, rfl, rfl, hok, hgk⟩ := hrel
                  have hBf := (hgk.block w.heap.size hgs (by simp)).trans (unhide HB)
                  have c4 : wr.cell? ⟨w.heap.size, 4, none⟩ = some (.slice ao n cap) := by rw [cell_of_row wr _ 4 _ _ (0, 0) hBf]; rfl
                  clear hBf
                  by_cases hlt : k < n
                  · obtain ⟨b, off, rfl, hc⟩ := (unhide HR) k hlt
                    have hc' := fun j hj => (grown_trans (unhide G0) hgk).cell (hc j hj) (by simp)
                    have h0 := hc' 0 (by omega)
                    have h1 := hc' 1 (by omega)
                    have h2 := hc' 2 (by omega)
                    have h3 := hc' 3 (by omega)
                    rw [Nat.add_zero] at h0
                    clear hc hc'
                    have HRW := hide ((unhide HR).grown (grown_trans (unhide G0) hgk))
                    have HOK := hide hok
                    have HSB := hide (sumHV_bounds k hok)
                    obtain ⟨u1, HU1⟩ : ∃ u, Hid (decide (0 ≤ C k 0 ∧ C k 0 ≤ 255) = u) := ⟨_, rfl⟩
                    obtain ⟨u2, HU2⟩ : ∃ u, Hid (decide (1 ≤ C k 1 ∧ C k 1 ≤ 4) = u) := ⟨_, rfl⟩
                    obtain ⟨u3, HU3⟩ : ∃ u, Hid (decide (1 ≤ C k 2 ∧ C k 2 ≤ 4) = u) := ⟨_, rfl⟩
                    obtain ⟨u4, HU4⟩ : ∃ u, Hid (decide (0 ≤ C k 3 ∧ C k 3 ≤ 3) = u) := ⟨_, rfl⟩
                    have HS1 : Hid (okTo C (k + 1) = (okTo C k && ((u1 && (u2 && (u3 && u4))) && !idIn C k k))) := by unfold Hid; rw [okTo, compB, unhide HU1, unhide HU2, unhide HU3, unhide HU4]
                    have HS2 : Hid (sumHV C (k + 1) = sumHV C k + C k 1 * C k 2) := rfl
                    have STOP : Hid (((u1 && (u2 && (u3 && u4))) && !idIn C k k) = false → t = false) := fun h => by rw [unhide HR2, okTo_false (k := k + 1) (by rw [unhide HS1, h, Bool.and_false]) n hlt]; rfl
                    have HCK := hide (heap_alloc_new wr (.cells #[.int .i64 (C k 0), .int .i64 (C k 1), .int .i64 (C k 2), .int .i64 (C k 3)] 53))
                    have GK : Hid (wr.grownBy (wr.alloc (.cells #[.int .i64 (C k 0), .int .i64 (C k 1), .int .i64 (C k 2), .int .i64 (C k 3)] 53)) none) := grown_alloc (World.grownBy.refl _ _) _
                    have hgz : wr.heap.size < (wr.alloc (.cells #[.int .i64 (C k 0), .int .i64 (C k 1), .int .i64 (C k 2), .int .i64 (C k 3)] 53)).heap.size := by simp
                    have GR : Hid (w.grownBy wr none) := grown_trans (unhide G0) hgk
                    have GX := hide hgk
                    clear hok hgk
                    cases u1
                    · go_wp2_with fail
                      refine (between (C k 0) 0 255 _ HU1 _).mono ?_
                      rintro e w2 ⟨rfl, rfl⟩
                      go_wp2
                      go_ret
                      exact ⟨ret_bool (by rw [unhide STOP rfl]), grown_trans (unhide GR) (unhide GK)⟩
                    · go_wp2_with fail
                      refine (between (C k 0) 0 255 _ HU1 _).mono ?_
                      rintro e w2 ⟨rfl, rfl⟩
                      go_wp2_with fail
                      refine (between (C k 1) 1 4 _ HU2 _).mono ?_
                      rintro e w2 ⟨rfl, rfl⟩
                      cases u2
                      · go_wp2
                        go_ret
                        exact ⟨ret_bool (by rw [unhide STOP rfl]), grown_trans (unhide GR) (unhide GK)⟩
                      · go_wp2_with fail
                        refine (between (C k 2) 1 4 _ HU3 _).mono ?_
                        rintro e w2 ⟨rfl, rfl⟩
                        cases u3
                        · go_wp2
                          go_ret
                          exact ⟨ret_bool (by rw [unhide STOP rfl]), grown_trans (unhide GR) (unhide GK)⟩
                        · go_wp2_with fail
                          refine (between (C k 3) 0 3 _ HU4 _).mono ?_
                          rintro e w2 ⟨rfl, rfl⟩
                          cases u4
                          · go_wp2
                            go_ret
                            exact ⟨ret_bool (by rw [unhide STOP rfl]), grown_trans (unhide GR) (unhide GK)⟩
                          · go_wp2
                            have d4 := (unhide GK).cell c4 (by simp)
                            clear c4 h0 h1 h2 h3
                            generalize (wr.alloc (.cells #[.int .i64 (C k 0), .int .i64 (C k 1), .int .i64 (C k 2), .int .i64 (C k 3)] 53)) = wy at *
                            obtain ⟨wo, rfl⟩ : ∃ wo, wo = wr := ⟨_, rfl⟩
                            go_loopw [6] (fun i wi => ∃ m : Nat, m ≤ k ∧ i = .int .i64 m ∧ idIn C k m = false ∧ wy.grownBy wi none) (fun i _ => k - (intOf i).toNat)
                            case atStart => exact ⟨0, Nat.zero_le _, rfl, rfl, World.grownBy.refl _ _⟩
                            case round =>
                              obtain ⟨m, hm, rfl, hid, hgi⟩ := hrel
                              have hBx := (hgi.block wo.heap.size hgz (by simp)).trans (unhide HCK)
                              by_cases hml : m < k
                              · have i4 := hgi.cell d4 (by simp)
                                have cx : wr.cell? ⟨wo.heap.size, 0, none⟩ = some (.int .i64 (C k 0)) := by rw [cell_of_row wr _ 0 _ _ (0, 0) hBx]; rfl
                                obtain ⟨b', off', e', hcm⟩ := (unhide HRW) m (by omega)
                                simp only [Option.some.injEq, Addr.mk.injEq] at e'
                                obtain ⟨rfl, rfl, _⟩ := e'
                                have cm := (grown_trans (unhide GK) hgi).cell (hcm 0 (by omega)) (by simp)
                                rw [Nat.add_zero] at cm
                                have HST : Hid (idIn C k (m + 1) = (idIn C k m || (C m 0 == C k 0))) := rfl
                                have HTR : Hid ((C m 0 == C k 0) = true → t = false) := fun h => unhide STOP (by rw [idIn_true h k hml]; rfl)
                                have HID := hide hid
                                have hmn : (m : Int) < (n : Int) := by omega
                                clear hBx hcm hid d4
                                generalize C m 0 = x at *
                                generalize C k 0 = y at *
                                cases hxy : (x == y) with
                                | false =>
                                  have HXY := hide hxy
                                  go_wp2
                                  go_quiet (fail)
                                  go_wp2
                                  go_roundw
                                  case rel => exact ⟨m + 1, by omega, by go_num, by rw [unhide HST, unhide HID, unhide HXY]; rfl, grown_drewN hgi _⟩
                                  case measure => simp [intOf]; omega
                                | true =>
                                  have HXY := hide hxy
                                  go_wp2
                                  go_quiet (fail)
                                  go_wp2
                                  go_ret
                                  exact ⟨ret_bool (by rw [unhide HTR (unhide HXY)]), grown_trans (unhide GR) (grown_trans (unhide GK) (grown_drewN hgi _))⟩
                              · have hmk : m = k := by omega
                                subst hmk
                                have c1 : wr.cell? ⟨wo.heap.size, 1, none⟩ = some (.int .i64 (C m 1)) := by rw [cell_of_row wr _ 1 _ _ (0, 0) hBx]; rfl
                                have c2 : wr.cell? ⟨wo.heap.size, 2, none⟩ = some (.int .i64 (C m 2)) := by rw [cell_of_row wr _ 2 _ _ (0, 0) hBx]; rfl
                                have hmul := mul_small (of_decide_eq_true (unhide HU2)) (of_decide_eq_true (unhide HU3))
                                have hsb := unhide HSB
                                have HID := hide hid
                                clear hBx hid d4
                                generalize C m 1 = x at *
                                generalize C m 2 = y at *
                                generalize hxy : x * y = z at *
                                have HXY := hide hxy
                                clear hxy
                                generalize sumHV C m = sm at *
                                clear hml hm
                                go_wp2
                                go_roundw
                                case rel => exact ⟨m + 1, by omega, by go_num, by rw [unhide HXY, IntWalk.wrap64_in z (by omega), IntWalk.wrap64_in (sm + z) (by omega), unhide HS2], by rw [unhide HS1, unhide HOK, unhide HID]; rfl, grown_trans (unhide GX) (grown_trans (unhide GK) hgi)⟩
                                case measure => simp [intOf]; omega
                  · have hkn : k = n := by omega
                    subst hkn
                    have HF : Hid (t = decide (sumHV C k ≤ 10)) := by unfold Hid; rw [unhide HR2, hok, Bool.true_and]
                    have hsb := sumHV_bounds k hok
                    clear hok
                    go_wp2
                    go_ret
                    exact ⟨ret_bool (by rw [unhide HF]), grown_trans (unhide G0) hgk⟩
        · have hdm : decide (16384 < wd * ht) = true := decide_eq_true (by omega)
          have HF : Hid (t = false) := by unfold Hid; rw [unhide HP, decide_eq_false hle]; rfl
          clear hle
          rcases hp with rfl | rfl
          all_goals
            go_enter Tryz.func36, Tryz.ntmps36
            go_wp2_with fail
            refine (between wd 1 256 _ HT1 _).mono ?_
            rintro e w1 ⟨rfl, rfl⟩
            go_wp2_with fail
            refine (between ht 1 256 _ HT2 _).mono ?_
            rintro e w1 ⟨rfl, rfl⟩
            go_wp2
            go_ret
            exact ⟨ret_bool (by rw [unhide HF]), unhide G0⟩
  · have HF : Hid (t = false) := by unfold Hid; rw [← unhide HFB, frameB, headB, m8, m12]; rfl
    clear HFB m8 m12
    go_enter Tryz.func36, Tryz.ntmps36
    go_wp2
    go_ret
    exact ⟨ret_bool (by rw [unhide HF]), unhide G0⟩

end Go.Proofs.YtjkokbijnaodnaaGreat

namespace Go.Proofs.YtjkokbijnaodnaaGreat
open Go.RowKit

theorem specUp (n d u : Int) (hn : 1 ≤ n ∧ n ≤ 1000000) (hd : 1 ≤ d ∧ d ≤ 1000000) (hu : Hid (upI n d = u)) (w : World) :
    Calls Tryz.prog 86 #[.int .i64 n, .int .i64 d] w fun e w' => e = .returned (.int .i64 u) ∧ w = w' := by
  have hd0 : (d == 0) = false := by simp; omega
  have hm1 : (d == -1) = false := by simp; omega
  have he : Hid ((n + d - 1) / d = u) := by rw [← unhide hu, upI, Int.tdiv_eq_ediv_of_nonneg (by omega)]; rfl
  go_enter Tryz.func86, Tryz.ntmps86
  go_wp2
  go_ret
  exact ⟨by simp [unhide he], rfl⟩

theorem frameCells' {w : World} {g : Nat} {a b c d v : Value} {t : TypeId} (hb : w.heap[g]? = some (.cells #[a, b, c, d, v] t (0, 0))) :
    w.cell? ⟨g, 0, none⟩ = some a ∧ w.cell? ⟨g, 1, none⟩ = some b ∧ w.cell? ⟨g, 2, none⟩ = some c ∧ w.cell? ⟨g, 3, none⟩ = some d ∧ w.cell? ⟨g, 4, none⟩ = some v :=
  ⟨by rw [cell_of_row w _ 0 _ _ (0, 0) hb]; rfl, by rw [cell_of_row w _ 1 _ _ (0, 0) hb]; rfl, by rw [cell_of_row w _ 2 _ _ (0, 0) hb]; rfl, by rw [cell_of_row w _ 3 _ _ (0, 0) hb]; rfl, by rw [cell_of_row w _ 4 _ _ (0, 0) hb]; rfl⟩

set_option maxHeartbeats 1600000 in
theorem specMost (p wd ht rs : Int) (ao : Option Addr) (n cap : Nat) (C : Nat → Nat → Int) (w : World) (hr : RdC w ao n C) (hn : n ≤ 4194304) (mh mv : Int) (HH : Hid (mostA 1 C 1 n = mh)) (HV : Hid (mostA 1 C 2 n = mv)) :
    Calls Tryz.prog 85 #[.agg #[.int .i64 p, .int .i64 wd, .int .i64 ht, .int .i64 rs, .slice ao n cap]] w fun e w' => e = .returned (.tuple #[.int .i64 mh, .int .i64 mv]) ∧ w.grownBy w' none := by
  have G0 : Hid (w.grownBy (w.alloc (.cells #[.int .i64 p, .int .i64 wd, .int .i64 ht, .int .i64 rs, .slice ao n cap] 37)) none) := grown_alloc (World.grownBy.refl _ _) _
  have HB := hide (heap_alloc_new w (.cells #[.int .i64 p, .int .i64 wd, .int .i64 ht, .int .i64 rs, .slice ao n cap] 37))
  have HR := hide (hr.grown (unhide G0))
  clear hr
  go_enter Tryz.func85, Tryz.ntmps85
  go_wp2
  generalize (w.alloc (.cells #[.int .i64 p, .int .i64 wd, .int .i64 ht, .int .i64 rs, .slice ao n cap] 37)) = wx at *
  have cf := frameCells' (unhide HB)
  go_loopw [4, 5, 6] (fun h v i wr => ∃ k : Nat, k ≤ n ∧ i = .int .i64 k ∧ h = .int .i64 (mostA 1 C 1 k) ∧ v = .int .i64 (mostA 1 C 2 k) ∧ wr = wx) (fun _ _ i _ => n - (intOf i).toNat)
  case atStart => exact ⟨0, Nat.zero_le _, rfl, rfl, rfl, rfl⟩
  case round =>
    obtain ⟨k, hk, rfl, rfl, rfl, rfl⟩ := hrel
    by_cases hlt : k < n
    · obtain ⟨bb, off, rfl, hc⟩ := (unhide HR) k hlt
      have c1 := hc 1 (by omega)
      have c2 := hc 2 (by omega)
      clear hc
      have S1 : Hid (mostA 1 C 1 (k + 1) = max (mostA 1 C 1 k) (C k 1)) := rfl
      have S2 : Hid (mostA 1 C 2 (k + 1) = max (mostA 1 C 2 k) (C k 2)) := rfl
      generalize mostA 1 C 1 k = m1 at *
      generalize mostA 1 C 2 k = m2 at *
      generalize C k 1 = x1 at *
      generalize C k 2 = x2 at *
      by_cases q1 : m1 < x1 <;> by_cases q2 : m2 < x2
      all_goals
        go_wp2
        go_roundw
        case rel => exact ⟨k + 1, by omega, by go_num, by rw [unhide S1]; first | rw [Int.max_eq_right (by omega)] | rw [Int.max_eq_left (by omega)], by rw [unhide S2]; first | rw [Int.max_eq_right (by omega)] | rw [Int.max_eq_left (by omega)], trivial⟩
        case measure => simp [intOf]; omega
    · have hkn : k = n := by omega
      subst hkn
      rw [unhide HH, unhide HV]
      go_wp2
      refine bodyPost_ret (v := .tuple #[.int .i64 mh, .int .i64 mv]) (by simp [results, Tryz.results85, go_sem]) rfl ⟨rfl, unhide G0⟩

end Go.Proofs.YtjkokbijnaodnaaGreat

namespace Go.Proofs.YtjkokbijnaodnaaGreat
open Go.RowKit

set_option maxRecDepth 20000 in
set_option maxHeartbeats 1600000 in
theorem specComps (p wd ht rs : Int) (fo : Option Addr) (n fcap : Nat) (hn : n ≤ 4194304) (ao : Option Addr) (m cap : Nat) (cs : List Int) (w : World) (hr : Rd .i64 w ao m cs) (hm : m ≤ 4194304) :
    Calls Tryz.prog 88 #[.agg #[.int .i64 p, .int .i64 wd, .int .i64 ht, .int .i64 rs, .slice fo n fcap], .slice ao m cap] w fun e w' => e = .returned (.bool (okComps n cs)) ∧ w.grownBy w' none := by
  have hml := hr.1
  obtain ⟨wx, hW0⟩ : ∃ wx, w.alloc (.cells #[.int .i64 p, .int .i64 wd, .int .i64 ht, .int .i64 rs, .slice fo n fcap] 37) = wx := ⟨_, rfl⟩
  have G0 : w.grownBy wx none := by rw [← hW0]; exact grown_alloc (World.grownBy.refl _ _) _
  have B0 : Hid (wx.heap[w.heap.size]? = some (.cells #[.int .i64 p, .int .i64 wd, .int .i64 ht, .int .i64 rs, .slice fo n fcap] 37 (0, 0))) := by rw [← hW0]; exact heap_alloc_new w _
  have hgs : w.heap.size < wx.heap.size := by rw [← hW0]; simp
  have HR := hide (hr.grown G0)
  have HG0 := hide G0
  have HW := hide hW0
  have hwn := i64_in ((n : Int) - 1) (by omega)
  clear hr G0 hW0
  go_enter Tryz.func88, Tryz.ntmps88
  go_wp2
  rw [unhide HW]
  clear HW
  go_loopw [5] (fun i wr => ∃ k : Nat, k ≤ m ∧ i = .int .i64 k ∧ compsTo n cs k = true ∧ wx.grownBy wr none) (fun i _ => m - (intOf i).toNat)
  case atStart => exact ⟨0, Nat.zero_le _, rfl, rfl, World.grownBy.refl _ _⟩
  case round =>
    obtain ⟨k, hk, rfl, hok, hgk⟩ := hrel
    by_cases hlt : k < m
    · obtain ⟨b, off, hao, hc⟩ := ((unhide HR).grown hgk).2 k hlt
      obtain ⟨_, _, _, _, kf⟩ := frameCells' ((hgk.block w.heap.size hgs (by simp)).trans (unhide B0))
      have HS : Hid (compsTo n cs (k + 1) = (compsTo n cs k && (decide (0 ≤ cs.getD k 0 ∧ cs.getD k 0 ≤ (n : Int) - 1) && decide (k = 0 ∨ cs.getD (k - 1) 0 < cs.getD k 0)))) := rfl
      have HOK := hide hok
      have STOP : Hid (compsTo n cs (k + 1) = false → okComps n cs = false) := fun h => by
        rw [okComps, compsTo_false h cs.length (by omega)]; rfl
      obtain ⟨t, HT⟩ : ∃ t, Hid (decide (0 ≤ cs.getD k 0 ∧ cs.getD k 0 ≤ (n : Int) - 1) = t) := ⟨_, rfl⟩
      have hk1 : (k : Int) < (m : Int) := by omega
      rw [unhide HT, unhide HOK, Bool.true_and] at HS
      clear hok HOK
      by_cases h0 : k = 0
      · subst h0
        have HS2 : Hid (compsTo n cs (0 + 1) = t) := by unfold Hid; rw [unhide HS]; simp
        clear HS
        rw [Nat.add_zero] at hc
        generalize cs.getD 0 0 = c at *
        subst hao
        cases t
        · go_wp2
          go_quiet ((go_at_call_of 38 (Value.int .i64 c); exact Calls.quiet_of_same (between c 0 _ false HT _)))
          all_goals
            go_wp2
            go_ret
            exact ⟨ret_bool (by rw [unhide STOP (unhide HS2)]), grown_drewN (grown_trans (unhide HG0) hgk) _⟩
        · go_wp2
          go_quiet ((go_at_call_of 38 (Value.int .i64 c); exact Calls.quiet_of_same (between c 0 _ true HT _)))
          all_goals
            go_wp2
            go_roundw
            case rel => exact ⟨1, by omega, by go_num, unhide HS2, grown_drewN hgk _⟩
            case measure => simp [intOf]; omega
      · obtain ⟨b', off', hao', hc'⟩ := ((unhide HR).grown hgk).2 (k - 1) (by omega)
        obtain ⟨rfl, rfl⟩ : b' = b ∧ off' = off := by rw [hao] at hao'; simpa [eq_comm] using hao'
        subst hao
        clear hao'
        have hkp : (0 : Int) < (k : Int) := by omega
        obtain ⟨j, rfl⟩ : ∃ j, k = j + 1 := ⟨k - 1, by omega⟩
        simp only [Nat.add_sub_cancel] at hc' HS
        have hw1 : IntKind.i64.wrap (((j + 1 : Nat) : Int) - 1) = (j : Int) := by rw [i64_in _ (by omega)]; omega
        have hj0 : (0 : Int) ≤ (j : Int) := by omega
        have hj1 : (j : Int) < (m : Int) := by omega
        generalize cs.getD (j + 1) 0 = c at *
        generalize cs.getD j 0 = d at *
        cases t
        · have HS2 : Hid (compsTo n cs (j + 1 + 1) = false) := by unfold Hid; rw [unhide HS]; simp
          go_wp2
          go_quiet ((go_at_call_of 38 (Value.int .i64 c); exact Calls.quiet_of_same (between c 0 _ false HT _)))
          all_goals
            go_wp2
            go_ret
            exact ⟨ret_bool (by rw [unhide STOP (unhide HS2)]), grown_drewN (grown_trans (unhide HG0) hgk) _⟩
        · by_cases hdc : d < c
          · have HS2 : Hid (compsTo n cs (j + 1 + 1) = true) := by unfold Hid; rw [unhide HS]; simp [hdc]
            have hdc' : ¬ c ≤ d := by omega
            go_wp2
            go_quiet ((go_at_call_of 38 (Value.int .i64 c); exact Calls.quiet_of_same (between c 0 _ true HT _)))
            all_goals
              go_wp2
              go_roundw
              case rel => exact ⟨j + 1 + 1, by omega, by go_num, unhide HS2, grown_drewN hgk _⟩
              case measure => simp [intOf]; omega
          · have HS2 : Hid (compsTo n cs (j + 1 + 1) = false) := by unfold Hid; rw [unhide HS]; simp [hdc]
            have hdc' : c ≤ d := by omega
            go_wp2
            go_quiet ((go_at_call_of 38 (Value.int .i64 c); exact Calls.quiet_of_same (between c 0 _ true HT _)))
            all_goals
              go_wp2
              go_ret
              exact ⟨ret_bool (by rw [unhide STOP (unhide HS2)]), grown_drewN (grown_trans (unhide HG0) hgk) _⟩
    · have hkn : k = m := by omega
      subst hkn
      have HE : Hid (okComps n cs = decide (0 < k)) := by
        unfold Hid okComps
        rw [hml, hok, Bool.true_and]
      clear hok
      go_wp2
      go_ret
      exact ⟨ret_bool (by rw [unhide HE]), grown_trans (unhide HG0) hgk⟩

end Go.Proofs.YtjkokbijnaodnaaGreat

namespace Go.Proofs.YtjkokbijnaodnaaGreat
open Go.RowKit

def passB (a : Scn) : Bool := decide (0 ≤ a.fr ∧ a.fr ≤ a.to) && decide (a.to ≤ 63) && decide (0 ≤ a.lo ∧ a.lo ≤ 13) && (decide (a.hi = 0) || decide (a.hi = a.lo + 1))
def scanB (fb : Bool) (n : Nat) (a : Scn) : Bool := fb && okComps n a.cs && passB a

set_option maxHeartbeats 1600000 in
theorem specBits (w : World) (vo : Option Addr) (vn vc : Nat) (a : Scn) (t : Bool) (HT : Hid (passB a = t)) :
    Calls Tryz.prog 89 #[.agg #[.slice vo vn vc, .int .i64 a.fr, .int .i64 a.to, .int .i64 a.hi, .int .i64 a.lo]] w fun e w' => e = .returned (.bool t) ∧ w.grownBy w' none := by
  obtain ⟨cs, fr, to, hi, lo⟩ := a
  dsimp only
  have hp := unhide HT
  unfold passB at hp
  dsimp only at hp
  have HG0 : Hid (w.grownBy (w.alloc (.cells #[.slice vo vn vc, .int .i64 fr, .int .i64 to, .int .i64 hi, .int .i64 lo] 77)) none) := World.grownBy_alloc _ _ _
  obtain ⟨c0, c1, c2, c3, c4⟩ := scanCells (heap_alloc_new w (.cells #[.slice vo vn vc, .int .i64 fr, .int .i64 to, .int .i64 hi, .int .i64 lo] 77))
  obtain ⟨b1, HB1⟩ : ∃ b, Hid (decide (0 ≤ fr ∧ fr ≤ to) = b) := ⟨_, rfl⟩
  obtain ⟨b2, HB2⟩ : ∃ b, Hid (decide (to ≤ 63) = b) := ⟨_, rfl⟩
  obtain ⟨b3, HB3⟩ : ∃ b, Hid (decide (0 ≤ lo ∧ lo ≤ 13) = b) := ⟨_, rfl⟩
  rw [unhide HB1, unhide HB2, unhide HB3] at hp
  have h2 := unhide HB2
  clear HT
  go_enter Tryz.func89, Tryz.ntmps89
  go_wp2_with fail
  refine (between fr 0 to b1 HB1 _).mono ?_
  rintro e w1 ⟨rfl, rfl⟩
  cases b1 with
  | false =>
    have e : t = false := by rw [← hp]; rfl
    subst e
    go_wp2
    go_ret
    exact ⟨rfl, unhide HG0⟩
  | true =>
    cases b2 with
    | false =>
      have e : t = false := by rw [← hp]; rfl
      subst e
      go_wp2
      go_ret
      exact ⟨rfl, unhide HG0⟩
    | true =>
      go_wp2_with fail
      refine (between lo 0 13 b3 HB3 _).mono ?_
      rintro e w1 ⟨rfl, rfl⟩
      cases b3 with
      | false =>
        have e : t = false := by rw [← hp]; rfl
        subst e
        go_wp2
        go_ret
        exact ⟨rfl, unhide HG0⟩
      | true =>
        have hlo := of_decide_eq_true (unhide HB3)
        have e1 := i64_in (lo + 1) (by omega)
        have hp2 : (decide (hi = 0) || decide (hi = lo + 1)) = t := hp
        by_cases h0 : hi = 0
        · have n0 : (hi == 0) = true := by simp [h0]
          have e : t = true := by rw [← hp2, decide_eq_true h0]; rfl
          subst e
          clear h0 hp hp2
          go_wp2
          go_ret
          exact ⟨rfl, unhide HG0⟩
        · have n0 : (hi == 0) = false := by simp [h0]
          obtain ⟨t2, ht2⟩ : ∃ t2, (hi == lo + 1) = t2 := ⟨_, rfl⟩
          have e : t = t2 := by
            rw [← hp2, decide_eq_false h0, ← ht2]
            by_cases h1 : hi = lo + 1
            · simp [h1]
            · simp [h1]
          subst e
          clear h0 hp hp2
          go_wp2
          go_ret
          exact ⟨rfl, unhide HG0⟩

set_option maxRecDepth 20000 in
set_option maxHeartbeats 1600000 in
theorem specScanOk (p wd ht rs : Int) (fo : Option Addr) (n fc : Nat) (C : Nat → Nat → Int) (w : World) (hr : RdC w fo n C) (hn : n ≤ 4194304) (vo : Option Addr) (vn vc : Nat) (a : Scn) (hv : Rd .i64 w vo vn a.cs) (hvn : vn ≤ 4194304) (fb t : Bool) (HFB : Hid (frameB p wd ht rs n C = fb)) (HT : Hid (scanB fb n a = t)) :
    Calls Tryz.prog 76 #[.agg #[.int .i64 p, .int .i64 wd, .int .i64 ht, .int .i64 rs, .slice fo n fc], .agg #[.slice vo vn vc, .int .i64 a.fr, .int .i64 a.to, .int .i64 a.hi, .int .i64 a.lo]] w fun e w' => e = .returned (.bool t) ∧ w.grownBy w' none := by
  have hp := unhide HT
  unfold scanB at hp
  obtain ⟨b2, HB2⟩ : ∃ b, Hid (okComps n a.cs = b) := ⟨_, rfl⟩
  obtain ⟨b3, HB3⟩ : ∃ b, Hid (passB a = b) := ⟨_, rfl⟩
  have HBITS := hide (fun W => specBits W vo vn vc a b3 HB3)
  have HCOMP := hide (fun W (g : w.grownBy W none) => specComps p wd ht rs fo n fc hn vo vn vc a.cs W (hv.grown g) hvn)
  rw [unhide HB2, unhide HB3] at hp
  rw [unhide HB2] at HCOMP
  obtain ⟨cs, fr, to, hi, lo⟩ := a
  dsimp only at hv HBITS ⊢
  obtain ⟨W2, HW2⟩ : ∃ W2, Hid ((w.alloc (.cells #[.int .i64 p, .int .i64 wd, .int .i64 ht, .int .i64 rs, .slice fo n fc] 37)).alloc (.cells #[.slice vo vn vc, .int .i64 fr, .int .i64 to, .int .i64 hi, .int .i64 lo] 77) = W2) := ⟨_, rfl⟩
  have G0 : w.grownBy W2 none := by rw [← unhide HW2]; exact grown_alloc (grown_alloc (World.grownBy.refl _ _) _) _
  have B0 : W2.heap[w.heap.size]? = some (.cells #[.int .i64 p, .int .i64 wd, .int .i64 ht, .int .i64 rs, .slice fo n fc] 37 (0, 0)) := by
    rw [← unhide HW2]
    exact at_rowS (World.grownBy_alloc _ _ none) (heap_alloc_new w _) (by simp)
  have B1 : W2.heap[w.heap.size + 1]? = some (.cells #[.slice vo vn vc, .int .i64 fr, .int .i64 to, .int .i64 hi, .int .i64 lo] 77 (0, 0)) := by
    rw [← unhide HW2]
    have := heap_alloc_new (w.alloc (.cells #[.int .i64 p, .int .i64 wd, .int .i64 ht, .int .i64 rs, .slice fo n fc] 37)) (.cells #[.slice vo vn vc, .int .i64 fr, .int .i64 to, .int .i64 hi, .int .i64 lo] 77)
    simpa using this
  have HFR := hide (specFrameOk p wd ht rs fo n fc C W2 (hr.grown G0) fb HFB)
  have HB0 := hide B0
  have HB1 := hide B1
  have HG0 := hide G0
  rw [← unhide HW2] at B0
  obtain ⟨f0, f1, f2, f3, f4⟩ := frameCells' B0
  clear hr hv G0 B0 B1 HT
  go_enter Tryz.func76, Tryz.ntmps76
  go_wp2_with fail
  rw [unhide HW2]
  clear HW2 f0 f1 f2 f3 f4
  refine (unhide HFR).mono ?_
  rintro e w3 ⟨rfl, g3⟩
  have HG3 := hide (grown_trans (unhide HG0) g3)
  have hA := at_rowS g3 (unhide HB0) (by simp)
  have hB := at_rowS g3 (unhide HB1) (by simp)
  cases fb with
  | false =>
    have e : t = false := by rw [← hp]; rfl
    subst e
    go_wp2
    go_ret
    exact ⟨rfl, unhide HG3⟩
  | true =>
    obtain ⟨f0, f1, f2, f3, f4⟩ := frameCells' hA
    obtain ⟨c0, c1, c2, c3, c4⟩ := scanCells hB
    have HHB := hide hB
    clear hA hB g3 HB0 HB1 HG0 HFR
    go_wp2_with fail
    refine (unhide HCOMP w3 (unhide HG3)).mono ?_
    rintro e w4 ⟨rfl, g4⟩
    have HG4 := hide (grown_trans (unhide HG3) g4)
    have hB4 := at_rowS g4 (unhide HHB) (by simp)
    clear f0 f1 f2 f3 f4 c0 c1 c2 c3 c4
    cases b2 with
    | false =>
      have e : t = false := by rw [← hp]; rfl
      subst e
      go_wp2
      go_ret
      exact ⟨rfl, unhide HG4⟩
    | true =>
      have e : t = b3 := by rw [← hp]; rfl
      subst e
      obtain ⟨c0, c1, c2, c3, c4⟩ := scanCells hB4
      clear hB4 g4 HHB HCOMP HG3
      go_wp2_with fail
      refine (unhide HBITS w4).mono ?_
      rintro e w5 ⟨rfl, g5⟩
      have HG5 := hide (grown_trans (unhide HG4) g5)
      clear g5 c0 c1 c2 c3 c4
      go_wp2
      go_ret
      exact ⟨rfl, unhide HG5⟩

end Go.Proofs.YtjkokbijnaodnaaGreat

namespace Go.Proofs.YtjkokbijnaodnaaGreat

/-- A row of what was told last, from place k on m places: each has to be 'want', and becomes 'lo'. -/
def leftRow (want lo : Int) : Nat → Nat → List Int → Option (List Int)
  | _, 0, row => some row
  | k, m + 1, row => if row.getD k 0 = want then leftRow want lo (k + 1) m (row.set k lo) else none
/-- The rows of a scan's components, one behind the other. -/
def leftComps (want lo : Int) (k m : Nat) : List Int → List (List Int) → Option (List (List Int))
  | [], X => some X
  | c :: cs, X => match leftRow want lo k m (X.getD c.toNat []) with
    | some row => leftComps want lo k m cs (X.set c.toNat row)
    | none => none
def wantOf (a : Scn) : Int := if a.hi = 0 then -1 else a.hi
def leftScan (a : Scn) (X : List (List Int)) : Option (List (List Int)) := leftComps (wantOf a) a.lo a.fr.toNat (a.to - a.fr + 1).toNat a.cs X
/-- All scans of a script, each of which has to be one. -/
def leftAll (fb : Bool) (n : Nat) : List Scn → List (List Int) → Option (List (List Int))
  | [], X => some X
  | a :: s, X => if scanB fb n a then (match leftScan a X with | some Y => leftAll fb n s Y | none => none) else none
def nothing (n : Nat) : List (List Int) := List.replicate n (List.replicate 64 (-1))
def leftO (fb : Bool) (n : Nat) (s : List Scn) : Option (List (List Int)) := if fb && decide (s.length ≤ 40) then leftAll fb n s (nothing n) else none
def leftG (fb : Bool) (n : Nat) (s : List Scn) : List (List Int) := (leftO fb n s).getD []
def scriptB (fb : Bool) (n : Nat) (s : List Scn) : Bool := match leftO fb n s with | some X => X.all (fun row => row.all (fun x => x == 0)) | none => false

def allC (n : Nat) : List Int := (List.range n).map (fun i : Nat => (i : Int))
def eachC (n : Nat) (f : Int → List Scn) : List Scn := (allC n).flatMap f
/-- The three scripts. -/
def scriptG (fb : Bool) (n : Nat) (kind : Int) : List Scn :=
  if fb then
    (if kind = 0 then [⟨allC n, 0, 63, 0, 0⟩]
    else if kind = 1 then eachC n (fun i => [⟨[i], 0, 63, 0, 0⟩])
    else if kind = 2 then [⟨allC n, 0, 0, 0, 1⟩] ++ eachC n (fun i => [⟨[i], 1, 5, 0, 2⟩, ⟨[i], 6, 63, 0, 2⟩]) ++ eachC n (fun i => [⟨[i], 1, 63, 2, 1⟩]) ++ [⟨allC n, 0, 0, 1, 0⟩] ++ eachC n (fun i => [⟨[i], 1, 63, 1, 0⟩])
    else [])
  else []

theorem leftRow_len {want lo : Int} : ∀ (k m : Nat) (row row' : List Int), leftRow want lo k m row = some row' → row'.length = row.length
  | _, 0, row, row', h => by unfold leftRow at h; rw [Option.some.inj h]
  | k, m + 1, row, row', h => by
    unfold leftRow at h
    split at h
    · rw [leftRow_len (k + 1) m _ row' h, List.length_set]
    · exact absurd h (by simp)
theorem leftRow_at {want lo : Int} : ∀ (k m : Nat) (row row' : List Int), leftRow want lo k m row = some row' → k + m ≤ row.length → ∀ j, (j < k ∨ k + m ≤ j → row'.getD j 0 = row.getD j 0) ∧ (k ≤ j → j < k + m → row.getD j 0 = want ∧ row'.getD j 0 = lo)
  | k, 0, row, row', h, _, j => by
    unfold leftRow at h
    rw [Option.some.inj h]
    exact ⟨fun _ => rfl, fun h1 h2 => by omega⟩
  | k, m + 1, row, row', h, hl, j => by
    unfold leftRow at h
    split at h
    · rename_i hw
      obtain ⟨a1, a2⟩ := leftRow_at (k + 1) m _ row' h (by rw [List.length_set]; omega) j
      have hk : k < row.length := by omega
      refine ⟨fun hj => ?_, fun h1 h2 => ?_⟩
      · rw [a1 (by omega)]
        have : k ≠ j := by omega
        simp [this]
      · by_cases e : k = j
        · subst e
          refine ⟨hw, ?_⟩
          rw [a1 (by omega)]
          simp [hk]
        · obtain ⟨b1, b2⟩ := a2 (by omega) (by omega)
          refine ⟨?_, b2⟩
          rw [← b1]
          simp [e]
    · exact absurd h (by simp)

end Go.Proofs.YtjkokbijnaodnaaGreat

namespace Go.Proofs.YtjkokbijnaodnaaGreat

/-- Rows of 64 numbers. -/
def Rows64 (n : Nat) (X : List (List Int)) : Prop := X.length = n ∧ ∀ c, c < n → (X.getD c []).length = 64
/-- A number of a row of rows. -/
def atL (X : List (List Int)) (c k : Nat) : Int := (X.getD c []).getD k 0
theorem nothing_rows (n : Nat) : Rows64 n (nothing n) := by
  refine ⟨by simp [nothing], fun c hc => ?_⟩
  have : (nothing n).getD c [] = List.replicate 64 (-1) := by simp [nothing, hc]
  rw [this, List.length_replicate]
theorem getD_set_same {α : Type} (X : List α) (c : Nat) (x d : α) (h : c < X.length) : (X.set c x).getD c d = x := by simp [h]
theorem getD_set_other {α : Type} (X : List α) (c j : Nat) (x d : α) (h : c ≠ j) : (X.set c x).getD j d = X.getD j d := by simp [h]
/-- Nothing that was told is told less of. -/
def Finer (X Y : List (List Int)) : Prop := ∀ c k, k < 64 → 0 ≤ atL X c k → 0 ≤ atL Y c k ∧ atL Y c k ≤ atL X c k
theorem Finer.refl (X : List (List Int)) : Finer X X := fun _ _ _ h => ⟨h, Int.le_refl _⟩
theorem Finer.trans {X Y Z : List (List Int)} (h : Finer X Y) (g : Finer Y Z) : Finer X Z := fun c k hk h0 => by
  obtain ⟨a, b⟩ := h c k hk h0
  obtain ⟨c1, d⟩ := g c k hk a
  exact ⟨c1, Int.le_trans d b⟩
theorem leftComps_step {want lo : Int} {k m : Nat} (hkm : k + m ≤ 64) (hwl : want = -1 ∨ lo ≤ want) (hlo : 0 ≤ lo) {n : Nat} : ∀ (cs : List Int) (X Y : List (List Int)), Rows64 n X → (∀ c ∈ cs, 0 ≤ c ∧ c < (n : Int)) → leftComps want lo k m cs X = some Y → Rows64 n Y ∧ Finer X Y
  | [], X, Y, hX, _, h => by
    unfold leftComps at h
    rw [← Option.some.inj h]
    exact ⟨hX, Finer.refl X⟩
  | c :: cs, X, Y, hX, hc, h => by
    unfold leftComps at h
    obtain ⟨h0, h1⟩ := hc c (by simp)
    have hcn : c.toNat < n := by omega
    have hcl : c.toNat < X.length := by rw [hX.1]; exact hcn
    cases hr : leftRow want lo k m (X.getD c.toNat []) with
    | none => rw [hr] at h; exact absurd h (by simp)
    | some row =>
      rw [hr] at h
      have hl := leftRow_len k m _ row hr
      rw [hX.2 _ hcn] at hl
      have hS : Rows64 n (X.set c.toNat row) := by
        refine ⟨by rw [List.length_set]; exact hX.1, fun j hj => ?_⟩
        by_cases e : c.toNat = j
        · rw [← e, getD_set_same _ _ _ _ hcl]; exact hl
        · rw [getD_set_other _ _ _ _ _ e]; exact hX.2 j hj
      have hF : Finer X (X.set c.toNat row) := fun j q hq hp => by
        unfold atL at hp ⊢
        by_cases e : c.toNat = j
        · subst e
          rw [getD_set_same _ _ _ _ hcl]
          obtain ⟨a1, a2⟩ := leftRow_at k m _ row hr (by rw [hX.2 _ hcn]; exact hkm) q
          by_cases hin : k ≤ q ∧ q < k + m
          · obtain ⟨b1, b2⟩ := a2 hin.1 hin.2
            rw [b2]
            rw [b1] at hp ⊢
            omega
          · rw [a1 (by omega)]
            exact ⟨hp, Int.le_refl _⟩
        · rw [getD_set_other _ _ _ _ _ e]
          exact ⟨hp, Int.le_refl _⟩
      obtain ⟨r1, r2⟩ := leftComps_step hkm hwl hlo cs _ Y hS (fun c' hc' => hc c' (by simp [hc'])) h
      exact ⟨r1, hF.trans r2⟩

theorem leftAll_app (fb : Bool) (n : Nat) : ∀ (s t : List Scn) (X : List (List Int)), leftAll fb n (s ++ t) X = (leftAll fb n s X).bind (leftAll fb n t)
  | [], t, X => rfl
  | a :: s, t, X => by
    simp only [List.cons_append, leftAll]
    split
    · cases leftScan a X with
      | none => rfl
      | some Y => exact leftAll_app fb n s t Y
    · rfl

theorem okComps_in {n : Nat} {cs : List Int} (h : okComps n cs = true) : ∀ c ∈ cs, 0 ≤ c ∧ c < (n : Int) := by
  intro c hc
  obtain ⟨i, hi, rfl⟩ := List.mem_iff_getElem.1 hc
  simp only [okComps, Bool.and_eq_true, decide_eq_true_eq] at h
  obtain ⟨⟨h0, h1⟩, _⟩ := compsTo_at h.1 i hi
  have e : cs.getD i 0 = cs[i] := by simp [hi]
  rw [e] at h0 h1
  omega
theorem passB_in {a : Scn} (h : passB a = true) : 0 ≤ a.fr ∧ a.fr ≤ a.to ∧ a.to ≤ 63 ∧ 0 ≤ a.lo ∧ (a.hi = 0 ∨ a.hi = a.lo + 1) := by
  simp only [passB, Bool.and_eq_true, Bool.or_eq_true, decide_eq_true_eq] at h
  omega
theorem leftScan_step {fb : Bool} {n : Nat} {a : Scn} (ha : scanB fb n a = true) {X Y : List (List Int)} (hX : Rows64 n X) (h : leftScan a X = some Y) : Rows64 n Y ∧ Finer X Y := by
  simp only [scanB, Bool.and_eq_true] at ha
  obtain ⟨⟨_, hc⟩, hp⟩ := ha
  obtain ⟨p1, p2, p3, p4, p5⟩ := passB_in hp
  unfold leftScan at h
  refine leftComps_step (k := a.fr.toNat) (m := (a.to - a.fr + 1).toNat) (by omega) ?_ p4 a.cs X Y hX (okComps_in hc) h
  unfold wantOf
  split
  · exact .inl rfl
  · right; omega
theorem leftAll_step {fb : Bool} {n : Nat} : ∀ (s : List Scn) (X Y : List (List Int)), Rows64 n X → leftAll fb n s X = some Y → Rows64 n Y ∧ Finer X Y
  | [], X, Y, hX, h => by
    unfold leftAll at h
    rw [← Option.some.inj h]
    exact ⟨hX, Finer.refl X⟩
  | a :: s, X, Y, hX, h => by
    unfold leftAll at h
    split at h
    · rename_i hb
      cases hs : leftScan a X with
      | none => rw [hs] at h; exact absurd h (by simp)
      | some Z =>
        rw [hs] at h
        obtain ⟨z1, z2⟩ := leftScan_step hb hX hs
        obtain ⟨r1, r2⟩ := leftAll_step s Z Y z1 h
        exact ⟨r1, z2.trans r2⟩
    · exact absurd h (by simp)
/-- What is left of a script that is one: rows of 64. -/
theorem leftO_rows {fb : Bool} {n : Nat} {s : List Scn} {X : List (List Int)} (h : leftO fb n s = some X) : Rows64 n X := by
  unfold leftO at h
  split at h
  · exact (leftAll_step s _ X (nothing_rows n) h).1
  · exact absurd h (by simp)
/-- What is left of a script's beginning: as many rows, and where something was told it is told no less behind it. -/
theorem left_half {fb : Bool} {n : Nat} {s : List Scn} {X : List (List Int)} (h : leftO fb n s = some X) (k : Nat) (hk : k ≤ s.length) : ∃ H, leftO fb n (s.take k) = some H ∧ Rows64 n H ∧ Rows64 n X ∧ Finer H X := by
  have h0 := h
  unfold leftO at h
  split at h
  · rename_i hb
    rw [Bool.and_eq_true, decide_eq_true_eq] at hb
    have e : s = s.take k ++ s.drop k := (List.take_append_drop k s).symm
    rw [e, leftAll_app] at h
    cases hs : leftAll fb n (s.take k) (nothing n) with
    | none => rw [hs] at h; exact absurd h (by simp)
    | some H =>
      rw [hs] at h
      have h2 : leftAll fb n (s.drop k) H = some X := h
      obtain ⟨r1, _⟩ := leftAll_step _ _ H (nothing_rows n) hs
      obtain ⟨r2, r3⟩ := leftAll_step _ _ X r1 h2
      refine ⟨H, ?_, r1, r2, r3⟩
      unfold leftO
      rw [if_pos]
      · exact hs
      · rw [Bool.and_eq_true, decide_eq_true_eq, List.length_take]
        exact ⟨hb.1, by omega⟩
  · exact absurd h (by simp)

/-- The three scripts tell all, and nothing comes behind them. -/
theorem script_tells (n : Nat) (h1 : 1 ≤ n) (h4 : n ≤ 4) (kind : Int) (hk : 0 ≤ kind ∧ kind ≤ 2) : scriptB true n (scriptG true n kind) = true ∧ ∃ a s, scriptG true n kind = a :: s ∧ leftG true n (scriptG true n kind ++ [a]) = [] := by
  have hn : n = 1 ∨ n = 2 ∨ n = 3 ∨ n = 4 := by omega
  have hk3 : kind = 0 ∨ kind = 1 ∨ kind = 2 := by omega
  rcases hn with rfl | rfl | rfl | rfl <;> rcases hk3 with rfl | rfl | rfl <;> exact ⟨by kernel_rfl, _, _, rfl, by kernel_rfl⟩

end Go.Proofs.YtjkokbijnaodnaaGreat

namespace Go.Proofs.YtjkokbijnaodnaaGreat
open Go.RowKit

/-- Components that are marked all over, from k0 on. -/
def markedC (k0 : Int) : Nat → Nat → Int := fun i j => k0 + 4 * (i : Int) + (j : Int)
theorem markPart_set (C : Nat → Nat → Int) (k0 : Int) (n k : Nat) (q : Int) (hq : k0 + 4 * (k : Int) = q) :
    ((((rowsK n 4 (compCells (fun i j => if i < k then markedC k0 i j else C i j))).set (k * 4) (.int .i64 q)).set (k * 4 + 1) (.int .i64 (q + 1))).set (k * 4 + 2) (.int .i64 (q + 1 + 1))).set (k * 4 + 3) (.int .i64 (q + 1 + 1 + 1)) = rowsK n 4 (compCells (fun i j => if i < k + 1 then markedC k0 i j else C i j)) := by
  have e0 := rowsK_set n 4 (compCells (fun i j => if i < k then markedC k0 i j else C i j)) k 0 (.int .i64 q) (by omega)
  rw [Nat.add_zero] at e0
  rw [e0, rowsK_set _ _ _ k 1 _ (by omega), rowsK_set _ _ _ k 2 _ (by omega), rowsK_set _ _ _ k 3 _ (by omega)]
  apply rowsK_congr
  intro i j _ hj
  have hj4 : j = 0 ∨ j = 1 ∨ j = 2 ∨ j = 3 := by omega
  by_cases e1 : i = k
  · subst e1
    rcases hj4 with rfl | rfl | rfl | rfl <;> simp [compCells, markedC, hq] <;> omega
  · by_cases e2 : i < k
    · rcases hj4 with rfl | rfl | rfl | rfl <;> simp [compCells, e1, e2, show i < k + 1 by omega]
    · rcases hj4 with rfl | rfl | rfl | rfl <;> simp [compCells, e1, e2, show ¬ i < k + 1 by omega]

end Go.Proofs.YtjkokbijnaodnaaGreat

namespace Go.Proofs.YtjkokbijnaodnaaGreat
open Go.RowKit

/-- A frame that is owned, in a box. -/
structure Bf (W : World) (b : Nat) (p wd ht rs : Int) (q n base : Nat) (C : Nat → Nat → Int) : Prop where
  box : W.heap[b]? = some (.cells #[.int .i64 p, .int .i64 wd, .int .i64 ht, .int .i64 rs, .slice (some ⟨q, 0, none⟩) n n] 37 (0, 0))
  own : W.ownsRow base 53 4 (.slice (some ⟨q, 0, none⟩) n n) n (rowsK n 4 (compCells C))
section
variable {W W' : World} {b q n base : Nat} {p wd ht rs : Int} {C : Nat → Nat → Int}
theorem Bf.lt (h : Bf W b p wd ht rs q n base C) : b < W.heap.size := (Array.getElem?_eq_some_iff.1 h.box).1
theorem Bf.keep (h : Bf W b p wd ht rs q n base C) (g : W.grownBy W' none) : Bf W' b p wd ht rs q n base C := ⟨(g.block b h.lt (by simp)).trans h.box, own_grown h.own g⟩
theorem Bf.new (h : W.ownsRow base 53 4 (.slice (some ⟨q, 0, none⟩) n n) n (rowsK n 4 (compCells C))) (p wd ht rs : Int) : Bf (W.alloc (.cells #[.int .i64 p, .int .i64 wd, .int .i64 ht, .int .i64 rs, .slice (some ⟨q, 0, none⟩) n n] 37)) W.heap.size p wd ht rs q n base C :=
  ⟨heap_alloc_new W _, own_grown h (World.grownBy_alloc _ _ _)⟩
theorem Bf.rd (h : Bf W b p wd ht rs q n base C) : RdC W (some ⟨q, 0, none⟩) n C := own_rdC h.own
end
theorem Bf.wr {W W' : World} {b q n base : Nat} {p wd ht rs : Int} {C : Nat → Nat → Int} {F : List Nat} (h : Bf W b p wd ht rs q n base C) (g : Wr F W W') (hb : b ∉ F) (hq : q ∉ F) : Bf W' b p wd ht rs q n base C :=
  ⟨(g.block b h.lt hb).trans h.box, own_sameAt h.own (fun x hx => by have e9 : q = x := Option.some.inj hx; subst e9; exact g.block q (h.own.lt q rfl).2 hq)⟩

end Go.Proofs.YtjkokbijnaodnaaGreat
