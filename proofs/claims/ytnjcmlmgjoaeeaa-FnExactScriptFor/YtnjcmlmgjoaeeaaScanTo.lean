/-
  Scans copied by the law.
-/
import Derived.Test.YtnjcmlmgjoaeeaaScanRows
namespace Go.Proofs.Ytnjcmlmgjoaeeaa
open Go.RowKit

set_option maxRecDepth 20000 in
set_option maxHeartbeats 1600000 in
theorem toScanC : ToC 22 RdSc OwSc szSc := by
  intro w u a hq hs
  obtain ⟨v, rfl, hv⟩ := hq
  obtain ⟨cs, fr, to, hi, lo⟩ := a
  obtain ⟨vo, vc, rfl, hr⟩ := id hv
  clear hr
  dsimp only at hv ⊢
  obtain ⟨vn, HVN⟩ : ∃ vn, Hid (cs.length = vn) := ⟨_, rfl⟩
  rw [unhide HVN] at hv ⊢
  obtain ⟨W3, HW3⟩ : ∃ W3, Hid (((w.alloc (.cells #[.slice vo vn vc, .int .i64 fr, .int .i64 to, .int .i64 hi, .int .i64 lo] 43)).alloc (.cells #[.slice none 0 0, .int .i64 0, .int .i64 0, .int .i64 0, .int .i64 0] 38)).alloc (.cells #[.slice none 0 0, .int .i64 0, .int .i64 0, .int .i64 0, .int .i64 0] 38) = W3) := ⟨_, rfl⟩
  have G0 : w.grownBy W3 none := by rw [← unhide HW3]; exact grown_alloc (grown_alloc (grown_alloc (World.grownBy.refl _ _) _) _) _
  have B0 : W3.heap[w.heap.size]? = some (.cells #[.slice vo vn vc, .int .i64 fr, .int .i64 to, .int .i64 hi, .int .i64 lo] 43 (0, 0)) := by
    rw [← unhide HW3]
    exact at_rowS (World.grownBy_alloc _ _ none) (at_rowS (World.grownBy_alloc _ _ none) (heap_alloc_new w _) (by simp)) (by simp)
  have B1 : W3.heap[w.heap.size + 1]? = some (.cells #[.slice none 0 0, .int .i64 0, .int .i64 0, .int .i64 0, .int .i64 0] 38 (0, 0)) := by
    rw [← unhide HW3]
    refine at_rowS (World.grownBy_alloc _ _ none) ?_ (by simp)
    have := heap_alloc_new (w.alloc (.cells #[.slice vo vn vc, .int .i64 fr, .int .i64 to, .int .i64 hi, .int .i64 lo] 43)) (.cells #[.slice none 0 0, .int .i64 0, .int .i64 0, .int .i64 0, .int .i64 0] 38)
    simpa using this
  have B2 : W3.heap[w.heap.size + 1 + 1]? = some (.cells #[.slice none 0 0, .int .i64 0, .int .i64 0, .int .i64 0, .int .i64 0] 38 (0, 0)) := by
    rw [← unhide HW3]
    have := heap_alloc_new ((w.alloc (.cells #[.slice vo vn vc, .int .i64 fr, .int .i64 to, .int .i64 hi, .int .i64 lo] 43)).alloc (.cells #[.slice none 0 0, .int .i64 0, .int .i64 0, .int .i64 0, .int .i64 0] 38)) (.cells #[.slice none 0 0, .int .i64 0, .int .i64 0, .int .i64 0, .int .i64 0] 38)
    simpa using this
  have HTO := hide (toIntSC W3 (.slice vo vn vc) cs (RdI.st .i64 _ _ _ _ hv G0) hs)
  have HB0 := hide B0
  have HB1 := hide B1
  have HB2 := hide B2
  have HG0 := hide G0
  rw [← unhide HW3] at B0
  obtain ⟨c0, c1, c2, c3, c4⟩ := scanCells B0
  clear hv hs G0 B0 B1 B2
  unfold scV
  dsimp only
  go_enter Try.func22, Try.ntmps22
  go_wp2_with fail
  rw [unhide HW3]
  clear HW3 c0 c1 c2 c3 c4
  refine (unhide HTO).mono ?_
  rintro e w4 ⟨u4, F4, rfl, o4, n4, l4, g4⟩
  obtain ⟨o4', rfl⟩ := o4
  obtain ⟨uo, uc, rfl⟩ := own_form o4'
  rw [unhide HVN] at o4' l4 n4 ⊢
  have B0 := at_rowS g4 (unhide HB0) (by simp)
  have B1 := at_rowS g4 (unhide HB1) (by simp)
  have B2 := at_rowS g4 (unhide HB2) (by simp)
  have HS3 : Hid (w.heap.size + 3 ≤ W3.heap.size) := by have := (Array.getElem?_eq_some_iff.1 (unhide HB2)).1; unfold Hid; omega
  have HB1' := hide B1
  have HB2' := hide B2
  obtain ⟨c0, c1, c2, c3, c4⟩ := scanCells B0
  obtain ⟨d0, d1, d2, d3, d4⟩ := scanCells B1
  obtain ⟨e0, e1, e2, e3, e4⟩ := scanCells B2
  have fd : ∀ j, w4.frozen? ⟨w.heap.size + 1, j, none⟩ = false := fun j => frozen_of_row w4 _ j _ _ B1
  have fe : ∀ j, w4.frozen? ⟨w.heap.size + 1 + 1, j, none⟩ = false := fun j => frozen_of_row w4 _ j _ _ B2
  have q0 := fd 0
  have q1 := fd 1
  have q2 := fd 2
  have q3 := fd 3
  have q4 := fd 4
  have r0 := fe 0
  have r1 := fe 1
  have r2 := fe 2
  have r3 := fe 3
  have r4 := fe 4
  have HO4 := hide o4'
  have HL4 := hide l4
  have HN4 := hide n4
  have HG4 := hide (grown_trans (unhide HG0) g4)
  have HS4 := hide g4.size
  clear B0 B1 B2 o4' l4 n4 g4 fd fe HB0 HB1 HB2 HG0 HTO
  go_wp2
  have G5 := grown_trans (grown_trans (grown_trans (grown_trans (grown_set w4 (w.heap.size + 1 + 1) 0 (.slice uo vn uc)) (grown_set _ (w.heap.size + 1 + 1) 1 (.int .i64 fr))) (grown_set _ (w.heap.size + 1 + 1) 2 (.int .i64 to))) (grown_set _ (w.heap.size + 1 + 1) 3 (.int .i64 hi))) (grown_set _ (w.heap.size + 1 + 1) 4 (.int .i64 lo))
  obtain ⟨X5, hX5⟩ : ∃ X5, ((((w4.setCell ⟨w.heap.size + 1 + 1, 0, none⟩ (.slice uo vn uc)).setCell ⟨w.heap.size + 1 + 1, 1, none⟩ (.int .i64 fr)).setCell ⟨w.heap.size + 1 + 1, 2, none⟩ (.int .i64 to)).setCell ⟨w.heap.size + 1 + 1, 3, none⟩ (.int .i64 hi)).setCell ⟨w.heap.size + 1 + 1, 4, none⟩ (.int .i64 lo) = X5 := ⟨_, rfl⟩
  rw [hX5] at G5 ⊢
  have E1 := at_rowS G5 (unhide HB1') (by simp)
  have D0 := heap_setCell_same X5 (w.heap.size + 1) 0 _ _ (.slice uo vn uc) E1
  have D1 := heap_setCell_same _ (w.heap.size + 1) 1 _ _ (.int .i64 fr) D0
  have D2 := heap_setCell_same _ (w.heap.size + 1) 2 _ _ (.int .i64 to) D1
  have D3 := heap_setCell_same _ (w.heap.size + 1) 3 _ _ (.int .i64 hi) D2
  have D4 := heap_setCell_same _ (w.heap.size + 1) 4 _ _ (.int .i64 lo) D3
  simp only [List.setIfInBounds_toArray, List.set_cons_zero, List.set_cons_succ] at D4
  have G10 := grown_trans (grown_trans (grown_trans (grown_trans (grown_set X5 (w.heap.size + 1) 0 (.slice uo vn uc)) (grown_set _ (w.heap.size + 1) 1 (.int .i64 fr))) (grown_set _ (w.heap.size + 1) 2 (.int .i64 to))) (grown_set _ (w.heap.size + 1) 3 (.int .i64 hi))) (grown_set _ (w.heap.size + 1) 4 (.int .i64 lo))
  obtain ⟨X10, hX10⟩ : ∃ X10, ((((X5.setCell ⟨w.heap.size + 1, 0, none⟩ (.slice uo vn uc)).setCell ⟨w.heap.size + 1, 1, none⟩ (.int .i64 fr)).setCell ⟨w.heap.size + 1, 2, none⟩ (.int .i64 to)).setCell ⟨w.heap.size + 1, 3, none⟩ (.int .i64 hi)).setCell ⟨w.heap.size + 1, 4, none⟩ (.int .i64 lo) = X10 := ⟨_, rfl⟩
  rw [hX10] at D4 G10 ⊢
  obtain ⟨s0, s1, s2, s3, s4⟩ := scanCells D4
  clear hX5 hX10 D0 D1 D2 D3 E1
  have hb := fun g e => ((unhide HO4).lt g e).1
  have hbl : ∀ g, (Value.slice uo vn uc).ownBlock = some g → W3.heap.size ≤ g := fun g e => unhide HL4 g (mem_blk.2 e)
  have o5 := own_beneath (unhide HO4) G5 (fun a b h1 h2 => by have := hbl a h1; have := unhide HS3; simp at h2; omega)
  have o10 := own_beneath o5 G10 (fun a b h1 h2 => by have := hbl a h1; have := unhide HS3; simp at h2; omega)
  refine bodyPost_ret (v := .agg #[.slice uo vn uc, .int .i64 fr, .int .i64 to, .int .i64 hi, .int .i64 lo]) (by simp [results, Try.results22, go_sem, s0, s1, s2, s3, s4]) rfl ?_
  refine ⟨_, _, rfl, ⟨_, rfl, ?_, rfl⟩, blk_nodup _, fun g hg => ?_, grown_new (grown_new (unhide HG4) G5 (fun k e => by simp at e; omega)) G10 (fun k e => by simp at e; omega)⟩
  · rw [unhide HVN]; exact own_base o10 (Nat.zero_le _)
  · have := hbl g (mem_blk.1 hg); have := unhide HS3; omega

theorem info_scan : (Try.prog.info? 38).map (fun i => (i.zero, i.size, i.bytes)) = some (some (.agg #[.slice none 0 0, .int .i64 0, .int .i64 0, .int .i64 0, .int .i64 0]), 5, 56) := by kernel_rfl

def five (v a b c d : Value) (q : Nat) : Value := if q = 0 then v else if q = 1 then a else if q = 2 then b else if q = 3 then c else d
theorem own5 {w : World} {g cap n base : Nat} {e : TypeId} {U : Nat → Nat → Value} (h : w.ownsRow base e 5 (.slice (some ⟨g, 0, none⟩) n cap) n (rowsK n 5 U)) (i : Nat) (v a b c d : Value) :
    (((((w.setCell ⟨g, i * 5, none⟩ v).setCell ⟨g, i * 5 + 1, none⟩ a).setCell ⟨g, i * 5 + 2, none⟩ b).setCell ⟨g, i * 5 + 3, none⟩ c).setCell ⟨g, i * 5 + 4, none⟩ d).ownsRow base e 5 (.slice (some ⟨g, 0, none⟩) n cap) n (rowsK n 5 (fun p q => if p = i then five v a b c d q else U p q)) := by
  have s0 := (h.stored (i * 5 + 0) v).1
  rw [rowsK_set n 5 U i 0 v (by omega)] at s0
  have s1 := (s0.stored (i * 5 + 1) a).1
  rw [rowsK_set n 5 _ i 1 a (by omega)] at s1
  have s2 := (s1.stored (i * 5 + 2) b).1
  rw [rowsK_set n 5 _ i 2 b (by omega)] at s2
  have s3 := (s2.stored (i * 5 + 3) c).1
  rw [rowsK_set n 5 _ i 3 c (by omega)] at s3
  have s4 := (s3.stored (i * 5 + 4) d).1
  rw [rowsK_set n 5 _ i 4 d (by omega)] at s4
  rw [Nat.add_zero] at s4
  have e9 : rowsK n 5 (fun p q => if p = i then five v a b c d q else U p q) = rowsK n 5 (fun p q => if p = i ∧ q = 4 then d else if p = i ∧ q = 3 then c else if p = i ∧ q = 2 then b else if p = i ∧ q = 1 then a else if p = i ∧ q = 0 then v else U p q) := by
    apply rowsK_congr
    intro p q _ hq
    by_cases ep : p = i
    · subst ep
      have : q = 0 ∨ q = 1 ∨ q = 2 ∨ q = 3 ∨ q = 4 := by omega
      rcases this with rfl | rfl | rfl | rfl | rfl <;> simp [five]
    · simp [ep]
  rw [e9]
  exact s4
theorem fillZ {α : Type} (z : α) (a : List α) (i : Nat) (h : i < a.length) : (a.take i ++ List.replicate (a.length - i) z).set i a[i] = a.take (i + 1) ++ List.replicate (a.length - (i + 1)) z := by
  rw [List.set_append_right _ _ (by simp; omega)]
  have e1 : i - (a.take i).length = 0 := by simp; omega
  rw [e1, show a.length - i = (a.length - (i + 1)) + 1 by omega, List.replicate_succ, List.set_cons_zero, List.take_succ_eq_append_getElem h, List.append_assoc]
  rfl

set_option maxRecDepth 20000 in
set_option maxHeartbeats 3200000 in
theorem toScanSC : ToC 27 RdSs OwSs (szR szSc) := by
  intro w u a hq hs
  obtain ⟨ao, cap, rfl, hel⟩ := hq
  obtain ⟨i0, hi, hz0, hz1, hz2⟩ := info_parts info_scan
  have HEL := hide hel
  have hlen := szR_len szSc a
  have HSE := hide (fun i h => (szR_el szSc a i h).2)
  obtain ⟨n, HN⟩ : ∃ n, Hid (a.length = n) := ⟨_, rfl⟩
  have hn : n ≤ 1048576 := by have := unhide HN; omega
  have HS := hide hs
  rw [unhide HN]
  clear hel hs hlen
  go_enter Try.func27, Try.ntmps27
  go_wp2_with (at_make; refine wpList_make_full _ rfl _ _ 27 rfl w.heap.size 38 i0 _ 5 Try.underlying27 hi hz0 hz1 .i64 .i64 _ _ n rfl rfl rfl rfl (by rw [hz2]; omega) (by unfold maxLen; omega) (Nat.le_refl _) ?_)
  intro w1 hown hgrow
  have em : (madeCells (#[Value.slice none 0 0, .int .i64 0, .int .i64 0, .int .i64 0, .int .i64 0] : Array Value) (n * 5)).toList = rowsK n 5 (fun _ b => (#[Value.slice none 0 0, .int .i64 0, .int .i64 0, .int .i64 0, .int .i64 0] : Array Value).getD b default) := madeK #[Value.slice none 0 0, .int .i64 0, .int .i64 0, .int .i64 0, .int .i64 0] n (by decide)
  have hown2 : w1.ownsRow w.heap.size 38 5 (.slice (some ⟨w.heap.size, 0, none⟩) n n) n (rowsK n 5 (fun _ b => (#[Value.slice none 0 0, .int .i64 0, .int .i64 0, .int .i64 0, .int .i64 0] : Array Value).getD b default)) := by rw [← em]; exact hown
  have HO1 : Hid (OwSs w1 (.slice (some ⟨w.heap.size, 0, none⟩) n n) (a.take 0 ++ List.replicate (a.length - 0) Scn.zero) (blk (.slice (some ⟨w.heap.size, 0, none⟩) n n))) := by
    rw [List.take_zero, List.nil_append, Nat.sub_zero, unhide HN]
    exact OwG.made (zc := fun b => (#[Value.slice none 0 0, .int .i64 0, .int .i64 0, .int .i64 0, .int .i64 0] : Array Value).getD b default) (fun w => ⟨⟨rfl, rfl, rfl, rfl⟩, OwI.nil .i64 3 w⟩) hown2
  have HG1 := hide hgrow
  have HF1 : Hid (∀ g ∈ blk (.slice (some ⟨w.heap.size, 0, none⟩) n n), w.heap.size ≤ g) := fun g hg => by have : w.heap.size = g := Option.some.inj (mem_blk.1 hg); omega
  clear hown hown2 hgrow hi hz0 hz1 hz2 em
  go_wp2
  go_loopw [4] (fun iv wr => ∃ (i : Nat) (F : List Nat), i ≤ n ∧ iv = .int .i64 i ∧ Hid (OwSs wr (.slice (some ⟨w.heap.size, 0, none⟩) n n) (a.take i ++ List.replicate (a.length - i) Scn.zero) F) ∧ Hid F.Nodup ∧ Hid (∀ g ∈ F, w.heap.size ≤ g) ∧ Hid (w.grownBy wr none)) (fun iv _ => n - (intOf iv).toNat)
  case atStart => exact ⟨0, _, Nat.zero_le _, rfl, HO1, blk_nodup _, HF1, HG1⟩
  case round =>
    clear HO1 HG1 HF1
    obtain ⟨i, F, hin, rfl, ho, hnd, hF, hg⟩ := hrel
    by_cases hlt : i < n
    · have hia : i < a.length := by rw [unhide HN]; exact hlt
      obtain ⟨b, off, c, rfl, k0, k1, q0⟩ := unhide HEL i hia
      obtain ⟨d0, d1, d2, d3, d4⟩ := rowScan (fun j hj => (unhide hg).cell (k0 j hj) (by simp)) k1
      have HT := hide (toScanC wr (scV (c 0) a[i]) a[i] ⟨_, rfl, RdI.st .i64 _ _ _ _ q0 (unhide hg)⟩ (Nat.le_trans (unhide HSE i hia) (unhide HS)))
      obtain ⟨vo, vc, ev, -⟩ := q0
      rw [ev] at HT d0
      unfold scV at HT
      have hiI : (i : Int) < (n : Int) := by omega
      obtain ⟨A, HAA⟩ : ∃ A, Hid (a[i] = A) := ⟨_, hide rfl⟩
      rw [unhide HAA] at HT d0 d1 d2 d3 d4
      clear k0 k1 ev
      go_wp2_with fail
      refine (unhide HT).mono ?_
      rintro e w2 ⟨u', F', rfl, ⟨v2, rfl, p2⟩, n2, b2, g2⟩
      obtain ⟨p3, rfl⟩ := p2
      obtain ⟨uo, uc, rfl⟩ := own_form p3
      have ho2 := OwSs.ok.keep (unhide ho) g2
      have hll : i < (a.take i ++ List.replicate (a.length - i) Scn.zero).length := by simp; omega
      have ell : (a.take i ++ List.replicate (a.length - i) Scn.zero).length = n := by have := unhide HN; simp; omega
      obtain ⟨g0, cap0, c2, Fi, e0, hg0, hg0n, cc, ff, hpi, hni, hsi, -, hback⟩ := OwG.turn OwScE.ok ho2 (unhide hnd) i hll
      obtain ⟨e1, -, -⟩ := Value.slice.inj e0
      obtain rfl : w.heap.size = g0 := by simpa using e1
      have x0 := cc 0 (by omega)
      have x1 := cc 1 (by omega)
      have x2 := cc 2 (by omega)
      have x3 := cc 3 (by omega)
      have x4 := cc 4 (by omega)
      rw [Nat.add_zero] at x0
      have y0 := ff (i * 5)
      have y1 := ff (i * 5 + 1)
      have y2 := ff (i * 5 + 2)
      have y3 := ff (i * 5 + 3)
      have y4 := ff (i * 5 + 4)
      obtain ⟨vn, HVN⟩ : ∃ vn, Hid (A.cs.length = vn) := ⟨_, rfl⟩
      rw [unhide HVN] at p3 b2 ⊢
      have hsz := (unhide hg).size
      have hgW : w.heap.size < wr.heap.size := OwSs.ok.lt _ _ _ _ (unhide ho) _ hg0
      have hblk : ∀ x, (Value.slice uo vn uc).ownBlock = some x → wr.heap.size ≤ x := fun x hx => b2 x (mem_blk.2 hx)
      have GS := grown_trans (grown_trans (grown_trans (grown_trans (grown_set w2 w.heap.size (i * 5) (.slice uo vn uc)) (grown_set _ w.heap.size (i * 5 + 1) (.int .i64 A.fr))) (grown_set _ w.heap.size (i * 5 + 2) (.int .i64 A.to))) (grown_set _ w.heap.size (i * 5 + 3) (.int .i64 A.hi))) (grown_set _ w.heap.size (i * 5 + 4) (.int .i64 A.lo))
      obtain ⟨F3, o3, n3, m3⟩ := hback _ (five (.slice uo vn uc) (.int .i64 A.fr) (.int .i64 A.to) (.int .i64 A.hi) (.int .i64 A.lo)) A (blk (.slice uo vn uc)) (Wr.ofRow GS (fun x e => by have : w.heap.size = x := Option.some.inj e; simp [this])) (fun U h => by rw [ell] at h ⊢; exact own5 h i _ _ _ _ _) ⟨⟨rfl, rfl, rfl, rfl⟩, by
          show _ ∧ _
          refine ⟨?_, rfl⟩
          rw [unhide HVN]
          exact own_beneath p3 GS (fun p q h1 h2 => by have := hblk p h1; have : w.heap.size = q := Option.some.inj h2; omega)⟩ (blk_nodup _) (fun x hx => .inr (fun hx2 => by
        have h1 := hblk x (mem_blk.1 hx)
        have h2 := OwSs.ok.lt _ _ _ _ (unhide ho) x hx2
        omega))
      rw [← unhide HAA, fillZ Scn.zero a i hia, unhide HAA] at o3
      have HO3 := hide o3
      have HF3 : Hid (∀ g ∈ F3, w.heap.size ≤ g) := fun g hg3 => by
        rcases m3 g hg3 with h | h
        · exact unhide hF g h
        · have := hblk g (mem_blk.1 h); omega
      have HG3 := hide (grown_new (grown_trans (unhide hg) g2) GS (fun k e => by have : w.heap.size = k := Option.some.inj e; omega))
      have HN3 := hide n3
      clear ho2 o3 n3 m3 p3 n2 b2 g2 HT ho hnd hF hg e0 e1 hback hpi hni hsi cc ff hblk GS hg0 hg0n d0 d1 d2 d3 d4
      unfold scV
      go_wp2
      go_roundw
      case rel => exact ⟨i + 1, F3, by omega, by go_num, HO3, HN3, HF3, HG3⟩
      case measure => simp [intOf]; omega
    · obtain rfl : i = n := by omega
      have HO4 : Hid (OwSs wr (.slice (some ⟨w.heap.size, 0, none⟩) i i) a F) := by
        have h := unhide ho
        rw [← unhide HN, List.take_length, Nat.sub_self, List.replicate_zero, List.append_nil, unhide HN] at h
        exact h
      clear ho
      go_wp2
      go_ret
      exact ⟨_, F, rfl, unhide HO4, unhide hnd, unhide hF, unhide hg⟩

end Go.Proofs.Ytnjcmlmgjoaeeaa
