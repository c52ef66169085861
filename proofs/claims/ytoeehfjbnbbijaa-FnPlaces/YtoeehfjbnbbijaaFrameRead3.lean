/-
  The walk of the specification's ReadFrame.
-/
import Derived.Test.YtoeehfjbnbbijaaFrameRead2
import Derived.Deep.AppendLies
namespace Go.Proofs.Ytoeehfjbnbbijaa
open Go.RowKit

theorem one5 (a b c d : Int) (ao : Option Addr) (n c' : Nat) : (#[.int .i64 a, .int .i64 b, .int .i64 c, .int .i64 d, .slice ao n c'] : Array Value).all (·.oneCell') = true := by
  rw [Array.all_eq_true_iff_forall_mem]
  intro v hv
  simp at hv
  rcases hv with rfl | rfl | rfl | rfl | rfl <;> rfl

theorem rowsK_comp (C : Nat → Nat → Int) (k : Nat) (y0 y1 y2 y3 : Int) (h : C k = fun j => if j = 0 then y0 else if j = 1 then y1 else if j = 2 then y2 else y3) :
    rowsK (k + 1) 4 (compCells C) = rowsK k 4 (compCells C) ++ [.int .i64 y0, .int .i64 y1, .int .i64 y2, .int .i64 y3] := by
  apply List.ext_getElem?
  intro c
  by_cases hc : c < k * 4
  · rw [List.getElem?_append_left (by rw [rowsK_len]; exact hc)]
    have hd : c = c / 4 * 4 + c % 4 := by omega
    have e1 := rowsK_get (k + 1) 4 (compCells C) (c / 4) (c % 4) (by omega) (by omega)
    have e2 := rowsK_get k 4 (compCells C) (c / 4) (c % 4) (by omega) (by omega)
    rw [← hd] at e1 e2
    rw [e1, e2]
  · rw [List.getElem?_append_right (by rw [rowsK_len]; omega), rowsK_len]
    by_cases h4 : c - k * 4 < 4
    · have e1 := rowsK_get (k + 1) 4 (compCells C) k (c - k * 4) (by omega) h4
      rw [show k * 4 + (c - k * 4) = c by omega] at e1
      rw [e1]
      have hj : c - k * 4 = 0 ∨ c - k * 4 = 1 ∨ c - k * 4 = 2 ∨ c - k * 4 = 3 := by omega
      rcases hj with e | e | e | e <;> rw [e] <;> simp [compCells, h]
    · rw [List.getElem?_eq_none (by rw [rowsK_len]; omega), List.getElem?_eq_none (by simp; omega)]

set_option maxRecDepth 100000 in
set_option maxHeartbeats 6400000 in
theorem specRead_long (b off n cap : Nat) (zs : List Int) (w : World) (hr : Rd .u8 w (some ⟨b, off, none⟩) n zs) (hn4 : n ≤ 4194304) (hby : ∀ i, 0 ≤ zs.getD i 0 ∧ zs.getD i 0 ≤ 255) (m : Nat) (hm : zs.getD 4 0 = (m : Int)) (hnm : n = 5 + 3 * m) (ok : Bool)
    (HOK : Hid (frameB (zs.getD 0 0) (zs.getD 1 0 + 1) (zs.getD 2 0 + 1) (zs.getD 3 0) m (compOf zs) = ok)) (Q0 Q1 Q2 Q3 : Int) (q : Nat) (HQ : Hid ((if ok = true then (zs.getD 0 0, zs.getD 1 0 + 1, zs.getD 2 0 + 1, zs.getD 3 0, m) else (0, 0, 0, 0, 0)) = (Q0, Q1, Q2, Q3, q))) :
    Calls Try.prog 27 #[.slice (some ⟨b, off, none⟩) n cap] w fun e w' => ∃ bo cap', e = .returned (.tuple #[.agg #[.int .i64 Q0, .int .i64 Q1, .int .i64 Q2, .int .i64 Q3, .slice bo q cap'], .bool ok]) ∧
      w'.ownsRow w.heap.size 77 4 (.slice bo q cap') q (rowsK q 4 (compCells (compOf zs))) ∧ w.grownBy w' none := by
  obtain ⟨ic, hic, hz0, hz1, hz2⟩ := info_parts Try.info77
  have hlt : ¬ ((n : Int) < 5) := by omega
  have cc : ∀ i, i < n → w.cell? ⟨b, off + i, none⟩ = some (.int .u8 (zs.getD i 0)) := fun i hi => by
    obtain ⟨b', off', e, hc⟩ := hr.2 i hi
    simp only [Option.some.injEq, Addr.mk.injEq] at e
    obtain ⟨rfl, rfl, _⟩ := e
    exact hc
  have h0 := cc 0 (by omega)
  have h1 := cc 1 (by omega)
  have h2 := cc 2 (by omega)
  have h3 := cc 3 (by omega)
  have h4 := cc 4 (by omega)
  rw [Nat.add_zero] at h0
  have b0 := hby 0
  have b1 := hby 1
  have b2 := hby 2
  have b3 := hby 3
  have b4 := hby 4
  rw [hm] at h4 b4
  have HBY := hide hby
  have HCC := hide cc
  have HCO : Hid (∀ i, compOf zs i = fun j => if j = 0 then zs.getD (5 + 3 * i) 0 else if j = 1 then zs.getD (5 + 3 * i + 1) 0 / 16 else if j = 2 then zs.getD (5 + 3 * i + 1) 0 % 16 else zs.getD (5 + 3 * i + 2) 0) := fun i => rfl
  have G0 : Hid (w.grownBy (w.alloc (.cells #[.int .i64 0, .int .i64 0, .int .i64 0, .int .i64 0, .slice none 0 0] 40)) none) := grown_alloc (World.grownBy.refl _ _) _
  have HB0 := hide (heap_alloc_new w (.cells #[.int .i64 0, .int .i64 0, .int .i64 0, .int .i64 0, .slice none 0 0] 40))
  have hgs : w.heap.size < (w.alloc (.cells #[.int .i64 0, .int .i64 0, .int .i64 0, .int .i64 0, .slice none 0 0] 40)).heap.size := by simp
  have HNM := hide hnm
  have hbw : b < w.heap.size := World.block_lt_of_cell? w _ h0
  clear hr hby cc hm
  generalize zs.getD 0 0 = x0 at *
  generalize zs.getD 1 0 = x1 at *
  generalize zs.getD 2 0 = x2 at *
  generalize zs.getD 3 0 = x3 at *
  have v0 := i64_in x0 (by omega)
  have v1 := i64_in x1 (by omega)
  have v2 := i64_in x2 (by omega)
  have v3 := i64_in x3 (by omega)
  have u1 := i64_in (x1 + 1) (by omega)
  have u2 := i64_in (x2 + 1) (by omega)
  have i0 : 0 < n := by omega
  have i1 : (1 : Int) < (n : Int) := by omega
  have i2 : (2 : Int) < (n : Int) := by omega
  have i3 : (3 : Int) < (n : Int) := by omega
  have i4 : (4 : Int) < (n : Int) := by omega
  have hdl : ((n : Int) != 5 + 3 * (m : Int)) = false := by simp; omega
  clear hnm
  have k4 := (unhide G0).cell h4 (by simp)
  go_enter Try.func27, Try.ntmps27
  go_wp2
  generalize (w.alloc (.cells #[.int .i64 0, .int .i64 0, .int .i64 0, .int .i64 0, .slice none 0 0] 40)) = wx at *
  have k0 := (unhide G0).cell h0 (by simp)
  have k1 := (unhide G0).cell h1 (by simp)
  have k2 := (unhide G0).cell h2 (by simp)
  have k3 := (unhide G0).cell h3 (by simp)
  refine wp_region_noPanic ?_
  refine wp_region_tail (fun w' => w'.cell? ⟨b, off, none⟩ = some (.int .u8 x0) ∧ w'.cell? ⟨b, off + 1, none⟩ = some (.int .u8 x1) ∧ w'.cell? ⟨b, off + 2, none⟩ = some (.int .u8 x2) ∧ w'.cell? ⟨b, off + 3, none⟩ = some (.int .u8 x3)) [true, true, true, true, true, true, true, true, true, true, true, true, true, true, true, true, true, true, true, false, false] (by kernel_rfl) (fun _ _ _ _ _ h => h) rfl (by kernel_rfl) ⟨k0, k1, k2, k3⟩ ?_
  clear h0 h1 h2 h3 h4
  iterate 19
    refine heldF_take (v := ?_) (Or.inl ⟨by rfl, ?_⟩) ?_
    rotate_left 1
    · intro w' hSw
      try dsimp only at hSw
      go_simp
      try with_reducible rfl
    simp only [Act.put, List.setIfInBounds_toArray, List.set_cons_zero, List.set_cons_succ]
  refine heldF_skip (heldF_skip (heldF_nil ?_))
  iterate 19 refine tailF_skip ?_
  have HB1 := hide (heap_alloc_new wx.drew (.cells #[.int .i64 0, .int .i64 0, .int .i64 0, .int .i64 0, .slice none 0 0] 40))
  have G1 : wx.grownBy (wx.drew.alloc (.cells #[.int .i64 0, .int .i64 0, .int .i64 0, .int .i64 0, .slice none 0 0] 40)) none := grown_alloc (grown_drew (World.grownBy.refl _ _)) _
  refine tailF_step (fun K hK => ?_)
  go_simp
  refine hK.out _ _ ⟨G1.cell k0 (by simp), G1.cell k1 (by simp), G1.cell k2 (by simp), G1.cell k3 (by simp)⟩ ?_
  clear hK K
  refine tailF_step (fun K hK => ?_)
  rw [if_pos (by rfl)]
  refine wp_store_row 40 _ _ rfl wx.heap.size rfl _ rfl #[.int .i64 0, .int .i64 0, .int .i64 0, .int .i64 0, .slice none 0 0] 40 (unhide HB1) rfl (by kernel_rfl) (one5 _ _ _ _ _ _ _) ?_
  intro w3 hB3 g3
  have g3' : wx.grownBy w3 none := grown_new G1 g3 (fun g e => by simp at e; omega)
  refine hK.out _ _ ⟨g3'.cell k0 (by simp), g3'.cell k1 (by simp), g3'.cell k2 (by simp), g3'.cell k3 (by simp)⟩ ?_
  refine tailF_nil (NoPanic.normal ?_)
  clear hK K g3 G1 HB1 k0 k1 k2 k3 k4 v0 v1 v2 v3 u1 u2 i1 i2 i3 i4 hdl
  simp only [Act.put]
  have hzx : wx.heap.size < w3.heap.size := (Array.getElem?_eq_some_iff.1 hB3).1
  have hlt' : (5 : Int) ≤ (n : Int) := by omega
  go_wp2
  go_loopw [5] (fun i wr => ∃ (k t : Nat) (v : Value), t = 5 + 3 * k ∧ k ≤ m ∧ i = .int .i64 t ∧ wr.heap[wx.heap.size]? = some (.cells #[.int .i64 x0, .int .i64 (x1 + 1), .int .i64 (x2 + 1), .int .i64 x3, v] 40 (0, 0)) ∧ wr.ownsRow (wx.heap.size + 1) 77 4 v k (rowsK k 4 (compCells (compOf zs))) ∧ wx.grownBy wr none) (fun i _ => n - (intOf i).toNat)
  case atStart => exact ⟨0, 5, .slice none 0 0, rfl, Nat.zero_le _, rfl, hB3, World.ownsRow_nil _ _ _ _, g3'⟩
  case round =>
    obtain ⟨k, t, v, htk, hk, rfl, hBk, hob, hgk⟩ := hrel
    obtain ⟨so, sc, hv⟩ := own_form hob
    subst hv
    by_cases hlt2 : k < m
    · have htn : t + 3 ≤ n := by have := unhide HNM; omega
      have GW := grown_trans (unhide G0) hgk
      have d0 := GW.cell (unhide HCC t (by omega)) (by simp)
      have d1 := GW.cell (unhide HCC (t + 1) (by omega)) (by simp)
      have d2 := GW.cell (unhide HCC (t + 2) (by omega)) (by simp)
      have e0 := unhide HBY t
      have e1 := unhide HBY (t + 1)
      have e2 := unhide HBY (t + 2)
      have HCK := hide (unhide HCO k)
      rw [← htk] at HCK
      generalize zs.getD t 0 = y0 at *
      generalize zs.getD (t + 1) 0 = y1 at *
      generalize zs.getD (t + 2) 0 = y2 at *
      have cf := frameCells5 hBk
      have ff := frameFree hBk
      have j0 : (t : Int) < (n : Int) := by omega
      have j1 : (t : Int) + 1 < (n : Int) := by omega
      have j2 : (t : Int) + 2 < (n : Int) := by omega
      have tn2 : ((t : Int) + 2).toNat = t + 2 := by omega
      have p1 : (0 : Int) ≤ (t : Int) + 1 := by omega
      have p2 : (0 : Int) ≤ (t : Int) + 2 := by omega
      have z1 := i64_in ((t : Int) + 1) (by omega)
      have z2 := i64_in ((t : Int) + 2) (by omega)
      have w0 := i64_in y0 (by omega)
      have w2 := i64_in y2 (by omega)
      have w1 := i64_in y1 (by omega)
      have htd : y1.tdiv 16 = y1 / 16 := Int.tdiv_eq_ediv_of_nonneg e1.1
      have htm : y1.tmod 16 = y1 % 16 := Int.tmod_eq_emod_of_nonneg e1.1
      have hwd := i64_in (y1 / 16) (by omega)
      have hne : wx.heap.size ≠ b := by omega
      have hzr : wx.heap.size < wr.heap.size := (Array.getElem?_eq_some_iff.1 hBk).1
      have HOWN : Hid ((wr.drew.alloc (.cells #[.int .i64 y0, .int .i64 (y1 / 16), .int .i64 (y1 % 16), .int .i64 y2] 77)).ownsRow (wx.heap.size + 1) 77 4 (.slice so k sc) k (rowsK k 4 (compCells (compOf zs)))) := (World.ownsRow.drew hob).alloc _
      have HN := hide (heap_alloc_new wr.drew (.cells #[.int .i64 y0, .int .i64 (y1 / 16), .int .i64 (y1 % 16), .int .i64 y2] 77))
      have HRR : Hid ((wr.drew.alloc (.cells #[.int .i64 y0, .int .i64 (y1 / 16), .int .i64 (y1 % 16), .int .i64 y2] 77)).heap[wx.heap.size]? = some (.cells #[.int .i64 x0, .int .i64 (x1 + 1), .int .i64 (x2 + 1), .int .i64 x3, .slice so k sc] 40 (0, 0))) := by
        unfold Hid; rw [Below.heap_alloc _ _ _ (show wx.heap.size < wr.drew.heap.size from hzr)]; exact hBk
      have HSZ : Hid ((wr.drew.alloc (.cells #[.int .i64 y0, .int .i64 (y1 / 16), .int .i64 (y1 % 16), .int .i64 y2] 77)).heap.size = wr.heap.size + 1) := by unfold Hid; simp
      have HLE : Hid (wx.heap.size + 1 ≤ (wr.drew.alloc (.cells #[.int .i64 y0, .int .i64 (y1 / 16), .int .i64 (y1 % 16), .int .i64 y2] 77)).heap.size) := by unfold Hid; rw [unhide HSZ]; omega
      have HD0 : Hid ((wr.drew.alloc (.cells #[.int .i64 y0, .int .i64 (y1 / 16), .int .i64 (y1 % 16), .int .i64 y2] 77)).cell? ⟨b, off + t, none⟩ = some (.int .u8 y0)) := (grown_alloc (grown_drew (World.grownBy.refl wr none)) _).cell d0 (by simp)
      have HD1 : Hid ((wr.drew.alloc (.cells #[.int .i64 y0, .int .i64 (y1 / 16), .int .i64 (y1 % 16), .int .i64 y2] 77)).cell? ⟨b, off + (t + 1), none⟩ = some (.int .u8 y1)) := (grown_alloc (grown_drew (World.grownBy.refl wr none)) _).cell d1 (by simp)
      have HD2 : Hid ((wr.drew.alloc (.cells #[.int .i64 y0, .int .i64 (y1 / 16), .int .i64 (y1 % 16), .int .i64 y2] 77)).cell? ⟨b, off + (t + 2), none⟩ = some (.int .u8 y2)) := (grown_alloc (grown_drew (World.grownBy.refl wr none)) _).cell d2 (by simp)
      have HLT : Hid (∀ g, (Value.slice so k sc).ownBlock = some g → wx.heap.size + 1 ≤ g) := fun g e => (hob.lt g e).1
      have hkb : k ≤ 255 := by omega
      have HBK := hide hBk
      have HGK := hide hgk
      have HT := hide htk
      clear hob hBk GW hgk htk
      go_wp2
      refine wp_region_noPanic ?_
      refine wp_region_raw (fun w' => w'.cell? ⟨b, off + t, none⟩ = some (.int .u8 y0) ∧ w'.cell? ⟨b, off + (t + 1), none⟩ = some (.int .u8 y1) ∧ w'.cell? ⟨b, off + (t + 2), none⟩ = some (.int .u8 y2)) [true, false, true, true, true, true, true, true, true, true, true, true, true, true, true, true, true, true, true, true, true, true, true, true, true, true, true, true, false, false, false, false] (by kernel_rfl) (fun _ _ _ _ _ h => h) rfl (by kernel_rfl) ⟨d0, d1, d2⟩ ?_
      refine heldF_take (v := ?_) (Or.inl ⟨by rfl, ?_⟩) ?_
      rotate_left 1
      · intro w' hSw
        try dsimp only at hSw
        go_simp
        try with_reducible rfl
      simp only [Act.put, List.setIfInBounds_toArray, List.set_cons_zero, List.set_cons_succ]
      refine heldF_skip ?_
      iterate 26
        refine heldF_take (v := ?_) (Or.inl ⟨by rfl, ?_⟩) ?_
        rotate_left 1
        · intro w' hSw
          try dsimp only at hSw
          go_simp
          try with_reducible rfl
        try simp only [Act.put, List.setIfInBounds_toArray, List.set_cons_zero, List.set_cons_succ]
      refine heldF_skip (heldF_skip (heldF_skip (heldF_skip (heldF_nil ?_))))
      refine anyH_step2 (i := 1) (j := 28) rfl rfl (by kernel_rfl) (fun K hK => ?_) (fun K hK => ?_)
      · go_simp
        refine hK.out _ _ ⟨d0, d1, d2⟩ ?_
        clear hK K
        try simp only [Act.put, List.setIfInBounds_toArray, List.set_cons_zero, List.set_cons_succ]
        refine anyH_step1 (i := 28) rfl (by kernel_rfl) (fun K hK => ?_)
        go_simp
        refine hK.out _ _ ⟨unhide HD0, unhide HD1, unhide HD2⟩ ?_
        clear hK K
        try simp only [Act.put, List.setIfInBounds_toArray, List.set_cons_zero, List.set_cons_succ]
        refine anyH_step1 (i := 29) rfl (by kernel_rfl) (fun K hK => ?_)
        refine step_append_lies _ (by rfl) _ _ _ (by rfl) (wx.heap.size + 1) 77 ic _ 4 32 Try.underlying38 hic hz0 hz1 hz2 rfl (by omega) _ k (rowsK k 4 (compCells (compOf zs))) (by rfl) (unhide HOWN) ⟨wr.heap.size, 0, none⟩ 1 1 [.int .i64 y0, .int .i64 (y1 / 16), .int .i64 (y1 % 16), .int .i64 y2] (by rfl) (by rfl) (World.news_of_block (cs := #[.int .i64 y0, .int .i64 (y1 / 16), .int .i64 (y1 % 16), .int .i64 y2]) (t := 77) (fr := (0, 0)) (unhide HN)) (by simp [Value.oneCell']) (by omega) (by unfold maxLen; omega) (by omega) (unhide HLE) (wr.heap.size + 1) (unhide HSZ) ?_
        intro gg cc w5 hown' hgrow hat hglt
        have hrow5 := (hgrow.block wx.heap.size (unhide HLE) (fun e => by have := unhide HLT _ e.symm; omega)).trans (unhide HRR)
        have c5 := frameCells5 hrow5
        have f5 := frameFree hrow5
        have q0 := hgrow.cell (unhide HD0) (fun e => by have := unhide HLT _ e.symm; simp at this; omega)
        have q1 := hgrow.cell (unhide HD1) (fun e => by have := unhide HLT _ e.symm; simp at this; omega)
        have q2 := hgrow.cell (unhide HD2) (fun e => by have := unhide HLT _ e.symm; simp at this; omega)
        have hg5 : wx.grownBy w5 none := grown_new (grown_alloc (grown_drew (unhide HGK)) _) hgrow (fun g e => by have := unhide HLT _ e; omega)
        refine hK.out _ _ ⟨q0, q1, q2⟩ ?_
        clear hK K cf ff d0 d1 d2 hgrow hat
        try simp only [Act.put, List.setIfInBounds_toArray, List.set_cons_zero, List.set_cons_succ]
        refine anyH_step1 (i := 30) rfl (by kernel_rfl) (fun K hK => ?_)
        go_simp
        refine hK.out _ _ ⟨q0, q1, q2⟩ ?_
        clear hK K
        try simp only [Act.put, List.setIfInBounds_toArray, List.set_cons_zero, List.set_cons_succ]
        refine anyH_step1 (i := 31) rfl (by kernel_rfl) (fun K hK => ?_)
        go_simp
        have hrow6 := heap_setCell_same w5 wx.heap.size 4 _ _ (.slice (some ⟨gg, 0, none⟩) (k + 1) cc) hrow5
        have hg6 : wx.grownBy (w5.setCell ⟨wx.heap.size, 4, none⟩ (.slice (some ⟨gg, 0, none⟩) (k + 1) cc)) none := grown_new hg5 (grown_set _ _ _ _) (fun g e => by simp at e; omega)
        have hs0 : (w5.setCell ⟨wx.heap.size, 4, none⟩ (.slice (some ⟨gg, 0, none⟩) (k + 1) cc)).cell? ⟨b, off + t, none⟩ = some (.int .u8 y0) := by rw [World.cell?_setCell_far _ _ _ _ hne]; exact q0
        have hs1 : (w5.setCell ⟨wx.heap.size, 4, none⟩ (.slice (some ⟨gg, 0, none⟩) (k + 1) cc)).cell? ⟨b, off + (t + 1), none⟩ = some (.int .u8 y1) := by rw [World.cell?_setCell_far _ _ _ _ hne]; exact q1
        have hs2 : (w5.setCell ⟨wx.heap.size, 4, none⟩ (.slice (some ⟨gg, 0, none⟩) (k + 1) cc)).cell? ⟨b, off + (t + 2), none⟩ = some (.int .u8 y2) := by rw [World.cell?_setCell_far _ _ _ _ hne]; exact q2
        refine hK.out _ _ ⟨hs0, hs1, hs2⟩ ?_
        clear hK K
        try simp only [Act.put, List.setIfInBounds_toArray, List.set_cons_zero, List.set_cons_succ]
        refine wpAnyH_done (by kernel_rfl) (NoPanic.normal ?_) _
        have HO6 : Hid ((w5.setCell ⟨wx.heap.size, 4, none⟩ (.slice (some ⟨gg, 0, none⟩) (k + 1) cc)).ownsRow (wx.heap.size + 1) 77 4 (.slice (some ⟨gg, 0, none⟩) (k + 1) cc) (k + 1) (rowsK (k + 1) 4 (compCells (compOf zs)))) := by
          refine own_sameAt (own_as4 hown' rfl (rowsK_comp _ k _ _ _ _ (unhide HCK)).symm) (fun g e => Below.heap_setCell _ _ _ _ ?_)
          have := (hown'.lt g e).1
          show g ≠ wx.heap.size
          omega
        have HROW := hide hrow6
        have HG6 := hide hg6
        clear hrow6 hg6 hs0 hs1 hs2 hg5 hown' hrow5 c5 f5 q0 q1 q2 hglt
        go_wp2
        go_roundw
        case rel => exact ⟨k + 1, t + 3, (.slice (some ⟨gg, 0, none⟩) (k + 1) cc), by have := unhide HT; omega, by omega, by go_num, unhide HROW, unhide HO6, unhide HG6⟩
        case measure => simp [intOf]; omega
      · go_simp
        refine hK.out _ _ ⟨unhide HD0, unhide HD1, unhide HD2⟩ ?_
        clear hK K
        try simp only [Act.put, List.setIfInBounds_toArray, List.set_cons_zero, List.set_cons_succ]
        have cfa : (wr.drew.alloc (.cells #[.int .i64 y0, .int .i64 (y1 / 16), .int .i64 (y1 % 16), .int .i64 y2] 77)).cell? ⟨wx.heap.size, 4, none⟩ = some (.slice so k sc) := (frameCells5 (unhide HRR)).2.2.2.2
        have cfb : (wr.alloc (.cells #[.int .i64 y0, .int .i64 (y1 / 16), .int .i64 (y1 % 16), .int .i64 y2] 77)).drew.cell? ⟨wx.heap.size, 4, none⟩ = some (.slice so k sc) := cfa
        refine anyH_step1 (i := 1) rfl (by kernel_rfl) (fun K hK => ?_)
        go_simp
        refine hK.out _ _ ⟨unhide HD0, unhide HD1, unhide HD2⟩ ?_
        clear hK K cfa cfb
        try simp only [Act.put, List.setIfInBounds_toArray, List.set_cons_zero, List.set_cons_succ]
        refine anyH_step1 (i := 29) rfl (by kernel_rfl) (fun K hK => ?_)
        refine step_append_lies _ (by rfl) _ _ _ (by rfl) (wx.heap.size + 1) 77 ic _ 4 32 Try.underlying38 hic hz0 hz1 hz2 rfl (by omega) _ k (rowsK k 4 (compCells (compOf zs))) (by rfl) (unhide HOWN) ⟨wr.heap.size, 0, none⟩ 1 1 [.int .i64 y0, .int .i64 (y1 / 16), .int .i64 (y1 % 16), .int .i64 y2] (by rfl) (by rfl) (World.news_of_block (cs := #[.int .i64 y0, .int .i64 (y1 / 16), .int .i64 (y1 % 16), .int .i64 y2]) (t := 77) (fr := (0, 0)) (unhide HN)) (by simp [Value.oneCell']) (by omega) (by unfold maxLen; omega) (by omega) (unhide HLE) (wr.heap.size + 1) (unhide HSZ) ?_
        intro gg cc w5 hown' hgrow hat hglt
        have hrow5 := (hgrow.block wx.heap.size (unhide HLE) (fun e => by have := unhide HLT _ e.symm; omega)).trans (unhide HRR)
        have c5 := frameCells5 hrow5
        have f5 := frameFree hrow5
        have q0 := hgrow.cell (unhide HD0) (fun e => by have := unhide HLT _ e.symm; simp at this; omega)
        have q1 := hgrow.cell (unhide HD1) (fun e => by have := unhide HLT _ e.symm; simp at this; omega)
        have q2 := hgrow.cell (unhide HD2) (fun e => by have := unhide HLT _ e.symm; simp at this; omega)
        have hg5 : wx.grownBy w5 none := grown_new (grown_alloc (grown_drew (unhide HGK)) _) hgrow (fun g e => by have := unhide HLT _ e; omega)
        refine hK.out _ _ ⟨q0, q1, q2⟩ ?_
        clear hK K cf ff d0 d1 d2 hgrow hat
        try simp only [Act.put, List.setIfInBounds_toArray, List.set_cons_zero, List.set_cons_succ]
        refine anyH_step1 (i := 30) rfl (by kernel_rfl) (fun K hK => ?_)
        go_simp
        refine hK.out _ _ ⟨q0, q1, q2⟩ ?_
        clear hK K
        try simp only [Act.put, List.setIfInBounds_toArray, List.set_cons_zero, List.set_cons_succ]
        refine anyH_step1 (i := 31) rfl (by kernel_rfl) (fun K hK => ?_)
        go_simp
        have hrow6 := heap_setCell_same w5 wx.heap.size 4 _ _ (.slice (some ⟨gg, 0, none⟩) (k + 1) cc) hrow5
        have hg6 : wx.grownBy (w5.setCell ⟨wx.heap.size, 4, none⟩ (.slice (some ⟨gg, 0, none⟩) (k + 1) cc)) none := grown_new hg5 (grown_set _ _ _ _) (fun g e => by simp at e; omega)
        have hs0 : (w5.setCell ⟨wx.heap.size, 4, none⟩ (.slice (some ⟨gg, 0, none⟩) (k + 1) cc)).cell? ⟨b, off + t, none⟩ = some (.int .u8 y0) := by rw [World.cell?_setCell_far _ _ _ _ hne]; exact q0
        have hs1 : (w5.setCell ⟨wx.heap.size, 4, none⟩ (.slice (some ⟨gg, 0, none⟩) (k + 1) cc)).cell? ⟨b, off + (t + 1), none⟩ = some (.int .u8 y1) := by rw [World.cell?_setCell_far _ _ _ _ hne]; exact q1
        have hs2 : (w5.setCell ⟨wx.heap.size, 4, none⟩ (.slice (some ⟨gg, 0, none⟩) (k + 1) cc)).cell? ⟨b, off + (t + 2), none⟩ = some (.int .u8 y2) := by rw [World.cell?_setCell_far _ _ _ _ hne]; exact q2
        refine hK.out _ _ ⟨hs0, hs1, hs2⟩ ?_
        clear hK K
        try simp only [Act.put, List.setIfInBounds_toArray, List.set_cons_zero, List.set_cons_succ]
        refine wpAnyH_done (by kernel_rfl) (NoPanic.normal ?_) _
        have HO6 : Hid ((w5.setCell ⟨wx.heap.size, 4, none⟩ (.slice (some ⟨gg, 0, none⟩) (k + 1) cc)).ownsRow (wx.heap.size + 1) 77 4 (.slice (some ⟨gg, 0, none⟩) (k + 1) cc) (k + 1) (rowsK (k + 1) 4 (compCells (compOf zs)))) := by
          refine own_sameAt (own_as4 hown' rfl (rowsK_comp _ k _ _ _ _ (unhide HCK)).symm) (fun g e => Below.heap_setCell _ _ _ _ ?_)
          have := (hown'.lt g e).1
          show g ≠ wx.heap.size
          omega
        have HROW := hide hrow6
        have HG6 := hide hg6
        clear hrow6 hg6 hs0 hs1 hs2 hg5 hown' hrow5 c5 f5 q0 q1 q2 hglt
        go_wp2
        go_roundw
        case rel => exact ⟨k + 1, t + 3, (.slice (some ⟨gg, 0, none⟩) (k + 1) cc), by have := unhide HT; omega, by omega, by go_num, unhide HROW, unhide HO6, unhide HG6⟩
        case measure => simp [intOf]; omega
    · have hkm : k = m := by omega
      subst hkm
      have hts : t = n := by have := unhide HNM; omega
      subst hts
      have cf := frameCells5 hBk
      have hBr := (hgk.block w.heap.size hgs (by simp)).trans (unhide HB0)
      have cr := frameCells5 hBr
      have fr := frameFree hBr
      have HO := hide hob
      have HGK := hide hgk
      have hzr : wx.heap.size < wr.heap.size := (Array.getElem?_eq_some_iff.1 hBk).1
      have hBR := hide hBr
      have hBK := hide hBk
      clear hob hBk hBr hgk htk
      go_wp2_with fail
      refine (specFrameOk x0 (x1 + 1) (x2 + 1) x3 so k sc (compOf zs) wr (own_rdC (unhide HO)) ok HOK).mono ?_
      rintro e w5 ⟨rfl, g5⟩
      have G5 := hide (grown_trans (unhide G0) (grown_trans (unhide HGK) g5))
      have cf5 := frameCells5 ((g5.block wx.heap.size hzr (by simp)).trans (unhide hBK))
      have hBr5 := (g5.block w.heap.size (by omega) (by simp)).trans (unhide hBR)
      have cr5 := frameCells5 hBr5
      have fr5 := frameFree hBr5
      have O5 := hide (own_grown (unhide HO) g5)
      clear cf cr fr hBr5 g5 HO HGK
      have hq : ∀ (W : World) (j : Nat) (u : Value), w.grownBy W none → w.grownBy (W.setCell ⟨w.heap.size, j, none⟩ u) none := fun W j u h => grown_new h (grown_set W _ j u) (fun g e => by simp at e; omega)
      have HQQ := hide hq
      clear hq
      cases ok
      · have HE := unhide HQ
        simp only [Bool.false_eq_true, if_false, Prod.mk.injEq] at HE
        obtain ⟨rfl, rfl, rfl, rfl, rfl⟩ := HE
        go_wp2
        refine bodyPost_ret (v := .tuple #[.agg #[.int .i64 0, .int .i64 0, .int .i64 0, .int .i64 0, .slice none 0 0], .bool false]) (by simp [results, Try.results27, go_sem, cr5]) rfl ⟨none, 0, rfl, World.ownsRow_nil _ _ _ _, ?_⟩
        exact unhide HQQ _ _ _ (unhide HQQ _ _ _ (unhide HQQ _ _ _ (unhide HQQ _ _ _ (unhide HQQ _ _ _ (unhide G5)))))
      · have HE := unhide HQ
        simp only [if_true, Prod.mk.injEq] at HE
        obtain ⟨rfl, rfl, rfl, rfl, rfl⟩ := HE
        have hk' : ∀ (W : World), W.ownsRow (wx.heap.size + 1) 77 4 (.slice so k sc) k (rowsK k 4 (compCells (compOf zs))) → ∀ (j : Nat) (u : Value), (W.setCell ⟨w.heap.size, j, none⟩ u).ownsRow (wx.heap.size + 1) 77 4 (.slice so k sc) k (rowsK k 4 (compCells (compOf zs))) :=
          fun W h j u => own_sameAt h (fun g e => Below.heap_setCell _ _ _ _ (by have := (h.lt g e).1; show g ≠ w.heap.size; omega))
        have HK' := hide hk'
        clear hk'
        go_wp2
        refine bodyPost_ret (v := .tuple #[.agg #[.int .i64 x0, .int .i64 (x1 + 1), .int .i64 (x2 + 1), .int .i64 x3, .slice so k sc], .bool true]) (by simp [results, Try.results27, go_sem, cr5]) rfl ⟨so, sc, rfl, ?_, ?_⟩
        · exact own_base (unhide HK' _ (unhide HK' _ (unhide HK' _ (unhide HK' _ (unhide HK' _ (unhide O5) _ _) _ _) _ _) _ _) _ _) (by omega)
        · exact unhide HQQ _ _ _ (unhide HQQ _ _ _ (unhide HQQ _ _ _ (unhide HQQ _ _ _ (unhide HQQ _ _ _ (unhide G5)))))

set_option maxHeartbeats 1600000 in
theorem specRead_short (ao : Option Addr) (n cap : Nat) (w : World) (hn : n < 5) :
    Calls Try.prog 27 #[.slice ao n cap] w fun e w' => e = .returned (.tuple #[.agg #[.int .i64 0, .int .i64 0, .int .i64 0, .int .i64 0, .slice none 0 0], .bool false]) ∧ w.grownBy w' none := by
  have hlt : (n : Int) < 5 := by omega
  go_enter Try.func27, Try.ntmps27
  go_wp2
  refine bodyPost_ret (v := .tuple #[.agg #[.int .i64 0, .int .i64 0, .int .i64 0, .int .i64 0, .slice none 0 0], .bool false]) (by simp [results, Try.results27, go_sem]) rfl ⟨rfl, ?_⟩
  exact grown_alloc (World.grownBy.refl _ _) _

set_option maxHeartbeats 1600000 in
theorem specRead_other (b off n cap : Nat) (x4 : Int) (w : World) (hn : 5 ≤ n) (hn4 : n ≤ 4194304) (h4 : w.cell? ⟨b, off + 4, none⟩ = some (.int .u8 x4)) (b4 : 0 ≤ x4 ∧ x4 ≤ 255) (hne : ¬ (n : Int) = 5 + 3 * x4) :
    Calls Try.prog 27 #[.slice (some ⟨b, off, none⟩) n cap] w fun e w' => e = .returned (.tuple #[.agg #[.int .i64 0, .int .i64 0, .int .i64 0, .int .i64 0, .slice none 0 0], .bool false]) ∧ w.grownBy w' none := by
  have hlt : ¬ ((n : Int) < 5) := by omega
  have hdl : ((n : Int) != 5 + 3 * x4) = true := by simp [hne]
  have i4 : (4 : Int) < (n : Int) := by omega
  have k4 := (grown_alloc (World.grownBy.refl w none) (.cells #[.int .i64 0, .int .i64 0, .int .i64 0, .int .i64 0, .slice none 0 0] 40)).cell h4 (by simp)
  clear hne
  go_enter Try.func27, Try.ntmps27
  go_wp2
  refine bodyPost_ret (v := .tuple #[.agg #[.int .i64 0, .int .i64 0, .int .i64 0, .int .i64 0, .slice none 0 0], .bool false]) (by simp [results, Try.results27, go_sem]) rfl ⟨rfl, ?_⟩
  exact grown_alloc (World.grownBy.refl _ _) _

theorem specReadFrame (ao : Option Addr) (n cap : Nat) (zs : List Int) (w : World) (hr : Rd .u8 w ao n zs) (hn4 : n ≤ 4194304) (hby : ∀ i, 0 ≤ zs.getD i 0 ∧ zs.getD i 0 ≤ 255) (ok : Bool) (p wd ht rs : Int) (m : Nat) (HF : Hid (readF zs = (ok, p, wd, ht, rs, m))) :
    Calls Try.prog 27 #[.slice ao n cap] w fun e w' => ∃ bo cap', e = .returned (.tuple #[.agg #[.int .i64 p, .int .i64 wd, .int .i64 ht, .int .i64 rs, .slice bo m cap'], .bool ok]) ∧
      w'.ownsRow w.heap.size 77 4 (.slice bo m cap') m (rowsK m 4 (compCells (compOf zs))) ∧ w.grownBy w' none := by
  have hc := readF_cases (unhide HF)
  have hl := hr.1
  by_cases hn : n < 5
  · rcases hc with ⟨rfl, _, rfl, rfl, rfl, rfl, rfl⟩ | ⟨_, h2, _⟩
    · refine (specRead_short ao n cap w hn).mono ?_
      rintro e w1 ⟨rfl, g1⟩
      exact ⟨none, 0, rfl, World.ownsRow_nil _ _ _ _, g1⟩
    · rw [readOk, Bool.and_eq_true] at h2
      have := (of_decide_eq_true h2.1).1
      omega
  · obtain ⟨b, off, rfl, _⟩ := hr.2 0 (by omega)
    have hm : zs.getD 4 0 = ((zs.getD 4 0).toNat : Int) := by have := (hby 4).1; omega
    by_cases hne : (n : Int) = 5 + 3 * zs.getD 4 0
    · have hro : readOk zs = frameB (zs.getD 0 0) (zs.getD 1 0 + 1) (zs.getD 2 0 + 1) (zs.getD 3 0) (zs.getD 4 0).toNat (compOf zs) := by
        rw [readOk, hl, decide_eq_true (show 5 ≤ n ∧ (n : Int) = 5 + 3 * zs.getD 4 0 from ⟨by omega, hne⟩), Bool.true_and]
      refine specRead_long b off n cap zs w hr hn4 hby (zs.getD 4 0).toNat hm (by omega) ok ?_ p wd ht rs m ?_
      · unfold Hid
        rw [← hro]
        rcases hc with ⟨h1, h2, _⟩ | ⟨h1, h2, _⟩ <;> rw [h1, h2]
      · unfold Hid
        rcases hc with ⟨rfl, _, rfl, rfl, rfl, rfl, rfl⟩ | ⟨rfl, _, rfl, rfl, rfl, rfl, rfl⟩ <;> rfl
    · rcases hc with ⟨rfl, _, rfl, rfl, rfl, rfl, rfl⟩ | ⟨_, h2, _⟩
      · obtain ⟨b', off', e, h4⟩ := hr.2 4 (by omega)
        simp only [Option.some.injEq, Addr.mk.injEq] at e
        obtain ⟨rfl, rfl, _⟩ := e
        refine (specRead_other b off n cap (zs.getD 4 0) w (by omega) hn4 h4 (hby 4) hne).mono ?_
        rintro e w1 ⟨rfl, g1⟩
        exact ⟨none, 0, rfl, World.ownsRow_nil _ _ _ _, g1⟩
      · rw [readOk, Bool.and_eq_true] at h2
        have := (of_decide_eq_true h2.1).2
        rw [hl] at this
        exact absurd this hne

end Go.Proofs.Ytoeehfjbnbbijaa
