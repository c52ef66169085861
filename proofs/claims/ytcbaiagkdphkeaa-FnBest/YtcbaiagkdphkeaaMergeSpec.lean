/-
  Coins and pairs put together, in the specification: the pairs.
-/
import Derived.Test.YtcbaiagkdphkeaaThingRows
import Derived.Test.YtcbaiagkdphkeaaHeldLast
import Derived.Deep.RegionHeld3
namespace Go.Proofs.Ytcbaiagkdphkeaa
open Go.RowKit

/-- A thing that is being made: its weight and its counts so far lie in a box. -/
structure BoxC (W0 : World) (xb : Nat) (W : Int) (w : World) (v : Value) (X : List Int) : Prop where
  own : w.ownsRow W0.heap.size 3 1 v X.length (X.map (Value.int .i64))
  box : w.heap[xb]? = some (.cells #[.int .i64 W, v] 57 (0, 0))
  ne : v.ownBlock ≠ some xb
  grown : W0.grownBy w none
  base : W0.heap.size ≤ xb
theorem info_i8 : (Try.prog.info? 3).map (fun i => (i.zero, i.size, i.bytes)) = some (some (.int .i64 0), 1, 8) := by kernel_rfl

theorem merge_nil (l : List Th) : mergeG l [] = l := by cases l <;> simp [mergeG]

theorem drop_two {L : List Th} {p : Nat} (h : 2 * p + 1 < L.length) : L.drop (2 * p) = L.getD (2 * p) default :: L.getD (2 * p + 1) default :: L.drop (2 * (p + 1)) := by
  rw [List.drop_eq_getElem_cons (show 2 * p < L.length by omega), List.drop_eq_getElem_cons (show 2 * p + 1 < L.length by omega)]
  have e : 2 * (p + 1) = 2 * p + 1 + 1 := by omega
  rw [e]
  simp [h, show 2 * p < L.length by omega]
theorem pairs_short {L : List Th} {p : Nat} (h : L.length ≤ 2 * p + 1) : pairsG (L.drop (2 * p)) = [] := by
  have hl : (L.drop (2 * p)).length ≤ 1 := by rw [List.length_drop]; omega
  match L.drop (2 * p), hl with
  | [], _ => rfl
  | [a], _ => simp [pairsG]
theorem hdTh_at {L : List Hd} {i : Nat} (h : i < L.length) : (L.map hdTh).getD i default = hdTh (L.getD i default) := by simp [h]
theorem zip_step {a b : List Int} {k : Nat} (h : k < a.length) (he : a.length = b.length) : (List.zipWith (· + ·) a b).take (k + 1) = (List.zipWith (· + ·) a b).take k ++ [a.getD k 0 + b.getD k 0] := by
  have hk : k < (List.zipWith (· + ·) a b).length := by simp; omega
  rw [List.take_succ_eq_append_getElem hk]
  simp [h, show k < b.length by omega]

set_option maxRecDepth 100000 in
set_option maxHeartbeats 6400000 in
theorem specPairs (ao : Option Addr) (n ca : Nat) (A : List Hd) (bo : Option Addr) (m cb : Nat) (L : List Hd) (w : World) (hA : RdH w ao n A) (hL : RdH w bo m L) (hn : n ≤ 256) (hm : m ≤ 512) (N : Nat) (hN : 1 ≤ N ∧ N ≤ 256) (hal : ∀ h ∈ A, h.cs.length = N) (hcl : ∀ h ∈ L, h.cs.length = N) (hwb : ∀ h ∈ L, 0 ≤ h.w ∧ h.w ≤ 1000000000000) (hcb : ∀ h ∈ L, ∀ c ∈ h.cs, 0 ≤ c ∧ c ≤ 1000000000) :
    Calls Try.prog 44 #[.slice ao n ca, .slice bo m cb] w fun e w' => ∃ v H, e = .returned v ∧ OwnH w w' v H ∧ H.map hdTh = mergeG (A.map hdTh) (pairsG (L.map hdTh)) ∧ ∀ h ∈ H, h ∈ A ∨ ∀ b o, h.co = some ⟨b, o, none⟩ → w.heap.size ≤ b := by
  have hLl := hL.1
  have HA := hide hA
  have HL := hide hL
  have HWB := hide hwb
  have HCB := hide hcb
  have HCL := hide hcl
  have HALT : Hid (∀ x, x < n → 0 < (A.getD x default).cs.length) := fun x hx => by
    have hl := hA.1
    have e : A.getD x default = A[x]'(by omega) := by simp [show x < A.length by omega]
    rw [e, hal _ (List.getElem_mem _)]; omega
  clear hA hL hwb hcb hcl hal
  obtain ⟨T, HT⟩ : ∃ T, Hid (pairsG (L.map hdTh) = T) := ⟨_, rfl⟩
  have hTl : T.length ≤ 256 := by rw [← unhide HT, pairs_len, List.length_map]; omega
  rw [unhide HT]
  obtain ⟨AT, HAT⟩ : ∃ AT, Hid (A.map hdTh = AT) := ⟨_, rfl⟩
  have hATl : AT.length = n := by rw [← unhide HAT, List.length_map, (unhide HA).1]
  have HATL := hide hATl
  obtain ⟨R, HR⟩ : ∃ R, Hid (mergeG AT T = R) := ⟨_, rfl⟩
  have hRl : R.length ≤ 512 := by rw [← unhide HR, merge_len, hATl]; omega
  rw [unhide HAT, unhide HR]
  clear hATl
  have HO0 : Hid (OwnH w (w.alloc (.cells #[] 57)) (.slice (some ⟨w.heap.size, 0, none⟩) 0 0) []) :=
    ⟨World.ownsRow_lit w #[] 0 (Nat.le_refl _) (by unfold maxLen; omega) rfl, fun _ h => by simp at h, fun _ h => by simp at h, fun _ h => by simp at h, World.grownBy_alloc _ _ _⟩
  go_enter Try.func44, Try.ntmps44
  go_wp2
  go_loopw [5, 6] (fun v i wr => ∃ (p : Nat) (P : List Hd), 2 * p ≤ m + 1 ∧ i = .int .i64 ((2 * p : Nat) : Int) ∧ Hid (OwnH w wr v P) ∧ Hid (P.map hdTh ++ pairsG ((L.map hdTh).drop (2 * p)) = T) ∧ Hid (∀ h ∈ P, h.cs.length = N ∧ ∀ b o, h.co = some ⟨b, o, none⟩ → w.heap.size ≤ b)) (fun _ i _ => m + 2 - (intOf i).toNat)
  case atStart => exact ⟨0, [], by omega, rfl, HO0, unhide HT, fun _ h => by simp at h⟩
  case round =>
    clear HO0
    obtain ⟨p, P, hp, rfl, ho, hT, hPN⟩ := hrel
    obtain ⟨wo, rfl⟩ : ∃ wo, wo = wr := ⟨wr, rfl⟩
    have hPl : P.length ≤ 256 := by
      have h2 : (P.map hdTh ++ pairsG ((L.map hdTh).drop (2 * p))).length = T.length := by rw [unhide hT]
      rw [List.length_append, List.length_map] at h2
      omega
    obtain ⟨so, sc, rfl⟩ := own_form (unhide ho).own
    obtain ⟨i, hi⟩ : ∃ i, 2 * p = i := ⟨_, rfl⟩
    rw [hi]
    have e0 := i64_in ((i : Int) + 1) (by omega)
    have e00 := i64_in ((i : Int) + 2) (by omega)
    by_cases hlt : i + 1 < m
    · have hd1 : decide ((i : Int) + 1 < (m : Int)) = true := decide_eq_true (by omega)
      have hRL := (unhide HL).grown (unhide ho).grown
      obtain ⟨bb, off, hbo, c0, c1⟩ := hRL.2.1 i (by omega)
      obtain ⟨bb', off', hbo', d0, d1⟩ := hRL.2.1 (i + 1) (by omega)
      rw [hbo] at hbo'
      simp only [Option.some.injEq, Addr.mk.injEq, and_true] at hbo'
      obtain ⟨rfl, rfl⟩ := hbo'
      have hx := hRL.counts (i := i) (by omega)
      have hy := hRL.counts (i := i + 1) (by omega)
      have hga : L.getD i default ∈ L := by
        have e : L.getD i default = L[i] := by simp [show i < L.length by omega]
        rw [e]; exact List.getElem_mem _
      have hgb : L.getD (i + 1) default ∈ L := by
        have e : L.getD (i + 1) default = L[i + 1] := by simp [show i + 1 < L.length by omega]
        rw [e]; exact List.getElem_mem _
      have hT2 := unhide hT
      rw [drop_two (by rw [List.length_map]; omega), hi, hdTh_at (by omega), hdTh_at (by omega)] at hT2
      have b1 := unhide HWB _ hga
      have b2 := unhide HWB _ hgb
      have l1 := unhide HCL _ hga
      have l2 := unhide HCL _ hgb
      have q1 := unhide HCB _ hga
      have q2 := unhide HCB _ hgb
      generalize L.getD i default = x at *
      generalize L.getD (i + 1) default = y at *
      obtain ⟨xw, xo, xc, xs⟩ := x
      obtain ⟨yw, yo, yc, ys⟩ := y
      dsimp only at c0 c1 d0 d1 b1 b2 l1 l2 q1 q2 hx hy
      rw [l1] at c1 hx
      rw [l2] at d1 hy
      have e1 := i64_in (xw + yw) (by omega)
      have hiI : (i : Int) < (m : Int) := by omega
      have hiI2 : (i : Int) + 1 < (m : Int) := by omega
      have hge : (0 : Int) ≤ (i : Int) + 1 := by omega
      subst hbo
      have HW0 := hide (heap_alloc_new wo.drew (.cells #[.int .i64 (xw + yw), .slice none 0 0] 57))
      go_wp2
      refine wp_region_noPanic ?_
      refine wp_region_tail (fun w' => w'.cell? ⟨bb, off + i * 2, none⟩ = some (.int .i64 xw) ∧ w'.cell? ⟨bb, off + (i + 1) * 2, none⟩ = some (.int .i64 yw)) [true, true, true, true, true, true, true, true, true, true, true, true, true, false, false] (by kernel_rfl) (fun _ _ _ _ _ h => h) rfl (by kernel_rfl) ⟨c0, d0⟩ ?_
      iterate 13
        refine heldF_take (v := ?_) (Or.inl ⟨by rfl, ?_⟩) ?_
        rotate_left 1
        · intro w' hSw
          try dsimp only at hSw
          go_simp
          try with_reducible rfl
        simp only [Act.put, List.setIfInBounds_toArray, List.set_cons_zero, List.set_cons_succ]
      refine heldF_skip (heldF_skip (heldF_nil ?_))
      iterate 13 refine tailF_skip ?_
      refine tailF_step (fun K hK => ?_)
      go_simp
      have gA : wo.grownBy (wo.alloc (.cells #[.int .i64 0, .slice none 0 0] 57)).drew none := grown_drew (grown_alloc (World.grownBy.refl _ _) _)
      refine hK.out _ _ ⟨gA.cell c0 (by simp), gA.cell d0 (by simp)⟩ ?_
      clear hK K gA
      refine tailF_step (fun K hK => ?_)
      go_simp
      have gB : wo.grownBy (wo.alloc (.cells #[.int .i64 (xw + yw), .slice none 0 0] 57)).drew none := grown_drew (grown_alloc (World.grownBy.refl _ _) _)
      have HBX : Hid (BoxC wo wo.heap.size (xw + yw) (wo.alloc (.cells #[.int .i64 (xw + yw), .slice none 0 0] 57)).drew (.slice none 0 0) []) :=
        ⟨⟨rfl, .inl ⟨rfl, rfl⟩⟩, heap_alloc_new wo _, fun e => by simp [Value.ownBlock] at e, gB, Nat.le_refl _⟩
      refine hK.out _ _ ⟨gB.cell c0 (by simp), gB.cell d0 (by simp)⟩ ?_
      clear hK K gB HW0
      refine tailF_nil (NoPanic.normal ?_)
      obtain ⟨xb, hxb⟩ : ∃ xb, wo.heap.size = xb := ⟨_, rfl⟩
      rw [hxb] at HBX
      rw [hxb]
      obtain ⟨w1, hw1⟩ : ∃ w1, (wo.alloc (.cells #[.int .i64 (xw + yw), .slice none 0 0] 57)).drew = w1 := ⟨_, rfl⟩
      rw [hw1] at HBX
      rw [hw1]
      clear hw1
      have HXB := hide hxb
      clear hxb
      have HC1 : Hid (∀ wv, wo.grownBy wv none → wv.cell? ⟨bb, off + i * 2 + 1, none⟩ = some (.slice xo N xc) ∧ wv.cell? ⟨bb, off + (i + 1) * 2 + 1, none⟩ = some (.slice yo N yc)) := fun wv g => ⟨g.cell c1 (by simp), g.cell d1 (by simp)⟩
      have HBL : Hid (bb < wo.heap.size ∧ (∀ b o, xo = some ⟨b, o, none⟩ → b < wo.heap.size) ∧ ∀ b o, yo = some ⟨b, o, none⟩ → b < wo.heap.size) := ⟨World.block_lt_of_cell? wo _ c0, fun b o e => hx.lt (by omega) b o e, fun b o e => hy.lt (by omega) b o e⟩
      have HXC := hide hx
      have HYC := hide hy
      obtain ⟨Z, HZ⟩ : ∃ Z : List Int, Hid (List.zipWith (· + ·) xs ys = Z) := ⟨_, rfl⟩
      have hZl : Z.length = N := by rw [← unhide HZ]; simp [l1, l2]
      have HZS : Hid (∀ q, q < N → Z.take (q + 1) = Z.take q ++ [xs.getD q 0 + ys.getD q 0]) := fun q hq => by rw [← unhide HZ]; exact zip_step (by omega) (by omega)
      have HQB : Hid (∀ q, q < N → (0 ≤ xs.getD q 0 ∧ xs.getD q 0 ≤ 1000000000) ∧ 0 ≤ ys.getD q 0 ∧ ys.getD q 0 ≤ 1000000000) := fun q hq => by
        have e1 : xs.getD q 0 = xs[q]'(by omega) := by simp [show q < xs.length by omega]
        have e2 : ys.getD q 0 = ys[q]'(by omega) := by simp [show q < ys.length by omega]
        rw [e1, e2]
        exact ⟨q1 _ (List.getElem_mem _), q2 _ (List.getElem_mem _)⟩
      have HT2 := hide hT2
      have HZL := hide hZl
      clear hT2 hT hRL q1 q2 hx hy c0 c1 d0 d1 hZl l1 l2 hga hgb
      go_wp2
      go_loopw [8] (fun k wv => ∃ (q : Nat) (v : Value) (X : List Int), q ≤ N ∧ k = .int .i64 q ∧ Hid (BoxC wo xb (xw + yw) wv v X) ∧ Hid (X = Z.take q)) (fun k _ => N - (intOf k).toNat)
      case atStart => exact ⟨0, _, [], Nat.zero_le _, rfl, HBX, rfl⟩
      case round =>
        clear HBX
        obtain ⟨q, v, X, hq, rfl, hbx, hX⟩ := hrel
        have hcc := unhide HC1 wr (unhide hbx).grown
        obtain ⟨c1, d1⟩ := hcc
        have HXL : Hid (X.length = q) := by unfold Hid; rw [unhide hX, List.length_take, unhide HZL]; omega
        have hXb : X.length ≤ 256 := by have := unhide HXL; omega
        by_cases hqn : q < N
        · have hd2 : decide ((q : Int) < (N : Int)) = true := decide_eq_true (by omega)
          obtain ⟨vo, vc, rfl⟩ := own_form (unhide hbx).own
          have x1 : wr.cell? ⟨xb, 1, none⟩ = some (.slice vo X.length vc) := by rw [cell_of_row wr xb 1 _ _ (0, 0) (unhide hbx).box]; rfl
          obtain ⟨pb, po, rfl, cx⟩ := ((unhide HXC).grown (unhide hbx).grown).2 q hqn
          obtain ⟨rb, ro, rfl, cy⟩ := ((unhide HYC).grown (unhide hbx).grown).2 q hqn
          have hz := unhide HZS q hqn
          have hqb := unhide HQB q hqn
          generalize xs.getD q 0 = xq at *
          generalize ys.getD q 0 = yq at *
          have e6 := i64_in (xq + yq) (by omega)
          have hqI : (q : Int) < (N : Int) := by omega
          obtain ⟨i1, hi1, hz10, hz11, hz12⟩ := info_parts info_i8
          have HKEEP : Hid (∀ w', wr.grownBy w' (Value.slice vo X.length vc).ownBlock → w'.cell? ⟨xb, 1, none⟩ = some (.slice vo X.length vc) ∧ w'.cell? ⟨bb, off + i * 2 + 1, none⟩ = some (.slice (some ⟨pb, po, none⟩) N xc) ∧ w'.cell? ⟨bb, off + (i + 1) * 2 + 1, none⟩ = some (.slice (some ⟨rb, ro, none⟩) N yc) ∧ w'.cell? ⟨pb, po + q, none⟩ = some (.int .i64 xq) ∧ w'.cell? ⟨rb, ro + q, none⟩ = some (.int .i64 yq)) := by
            intro w' g
            have hb := (unhide hbx)
            have old : ∀ (b o : Nat) (u : Value), wr.cell? ⟨b, o, none⟩ = some u → b < wo.heap.size → w'.cell? ⟨b, o, none⟩ = some u := fun b o u hc hlt => g.cell hc (fun e => by have := (hb.own.lt b e.symm).1; omega)
            exact ⟨g.cell x1 (fun e => hb.ne e.symm), old _ _ _ c1 (unhide HBL).1, old _ _ _ d1 (unhide HBL).1, old _ _ _ cx ((unhide HBL).2.1 pb po rfl), old _ _ _ cy ((unhide HBL).2.2 rb ro rfl)⟩
          go_wp2
          refine wp_region_noPanic ?_
          refine wp_region_tailL 3 (fun w' => w'.cell? ⟨xb, 1, none⟩ = some (.slice vo X.length vc) ∧ w'.cell? ⟨bb, off + i * 2 + 1, none⟩ = some (.slice (some ⟨pb, po, none⟩) N xc) ∧ w'.cell? ⟨bb, off + (i + 1) * 2 + 1, none⟩ = some (.slice (some ⟨rb, ro, none⟩) N yc) ∧ w'.cell? ⟨pb, po + q, none⟩ = some (.int .i64 xq) ∧ w'.cell? ⟨rb, ro + q, none⟩ = some (.int .i64 yq)) [true, true, true, true, true, true, true, true, true, true, true, true, true, true, true, true, true, true, true, true, false, false, false, false] (by kernel_rfl) (fun _ _ _ _ _ h => h) rfl (by decide) (by kernel_rfl) (unhide HKEEP _ (grown_drew (World.grownBy.refl _ _))) ?_
          iterate 20
            refine heldF_take (v := ?_) (Or.inl ⟨by rfl, ?_⟩) ?_
            rotate_left 1
            · intro w' hSw
              try dsimp only at hSw
              go_simp
              try with_reducible rfl
            simp only [Act.put, List.setIfInBounds_toArray, List.set_cons_zero, List.set_cons_succ]
          refine heldF_skip (heldF_skip (heldF_skip (heldF_skip (heldF_nil ?_))))
          iterate 20 refine tailL_skip ?_
          refine tailL_step (fun K hK => ?_)
          go_simp
          refine hK.out _ _ (.inr (unhide HKEEP _ (grown_any (grown_drew (grown_alloc (World.grownBy.refl _ _) _))))) ?_
          clear hK K
          refine tailL_step (fun K hK => ?_)
          refine step_append_lies _ (by rfl) _ _ _ (by rfl) wo.heap.size 3 i1 _ 1 8 Try.underlying24 hi1 hz10 hz11 hz12 rfl (by omega) (.slice vo X.length vc) X.length (X.map (Value.int .i64)) (by rfl) ((World.ownsRow.drew (unhide hbx).own).alloc _) ⟨wr.heap.size, 0, none⟩ 1 1 [.int .i64 (xq + yq)] (by rfl) (by rfl) (cell_one_new _ _ _) (by intro u hu; simp at hu; subst hu; rfl) (by omega) (by unfold maxLen; omega) (by omega) (by have := (unhide hbx).grown.size; simp; omega) (wr.heap.size + 1) (by simp) ?_
          intro gg cc w5 hown' hgrow hat hglt
          have G5 : wr.grownBy w5 (Value.slice vo X.length vc).ownBlock := ⟨hgrow.os, hgrow.tape, hgrow.output, by have h := hgrow.size; simp at h; omega, fun k hk hr => (hgrow.block k (by simp; omega) hr).trans (Below.heap_alloc _ _ _ hk)⟩
          have hS5 := unhide HKEEP _ G5
          have hxlt : xb < wr.heap.size := (Array.getElem?_eq_some_iff.1 (unhide hbx).box).1
          have hb5 : w5.heap[xb]? = some (.cells #[.int .i64 (xw + yw), .slice vo X.length vc] 57 (0, 0)) := (G5.block xb hxlt (fun e => (unhide hbx).ne e.symm)).trans (unhide hbx).box
          have f5 := frozen_of_row w5 xb 1 _ _ hb5
          have HNE : Hid (gg ≠ xb) := by
            rcases hat with h | h
            · intro e; exact (unhide hbx).ne (e ▸ h)
            · unfold Hid; omega
          have HB5 : Hid (BoxC wo xb (xw + yw) (w5.setCell ⟨xb, 1, none⟩ (.slice (some ⟨gg, 0, none⟩) (X.length + 1) cc)) (.slice (some ⟨gg, 0, none⟩) (X.length + 1) cc) (X ++ [xq + yq])) := by
            refine ⟨?_, heap_setCell_same w5 xb 1 _ _ _ hb5, fun e => unhide HNE (by simpa [Value.ownBlock] using e), grown_new (grown_new (unhide hbx).grown G5 (fun g e => ((unhide hbx).own.lt g e).1)) (grown_set w5 xb 1 _) (fun g e => by simp at e; have := (unhide hbx).base; omega), (unhide hbx).base⟩
            rw [List.map_append, List.length_append]
            exact own_beneath hown' (grown_set w5 xb 1 _) (fun g g' h h' => by simp [Value.ownBlock] at h; simp at h'; subst h h'; exact unhide HNE)
          have HX5 : Hid (X ++ [xq + yq] = Z.take (q + 1)) := by unfold Hid; rw [hz, unhide hX]
          refine hK.out _ _ (.inr hS5) ?_
          clear hK K hown' hgrow hat hglt G5 hb5 HKEEP hbx hX hz HNE
          simp only [Act.put, List.setIfInBounds_toArray, List.set_cons_zero, List.set_cons_succ]
          refine tailL_step (fun K hK => ?_)
          go_simp
          refine hK.out _ _ (.inr hS5) ?_
          clear hK K
          refine tailL_step (fun K hK => ?_)
          obtain ⟨x5, _, _, _, _⟩ := hS5
          go_simp
          refine hK.out _ _ (.inl rfl) ?_
          clear hK K
          refine tailL_nil (NoPanic.normal ?_)
          go_wp2
          go_roundw
          case rel => exact ⟨q + 1, _, X ++ [xq + yq], by omega, by go_num, HB5, HX5⟩
          case measure => simp [intOf]; omega
        · obtain rfl : q = N := by omega
          have hXZ : X = Z := by rw [unhide hX, List.take_of_length_le (by rw [unhide HZL]; exact Nat.le_refl _)]
          subst hXZ
          obtain ⟨vo, vc, rfl⟩ := own_form (unhide hbx).own
          have x0 : wr.cell? ⟨xb, 0, none⟩ = some (.int .i64 (xw + yw)) := by rw [cell_of_row wr xb 0 _ _ (0, 0) (unhide hbx).box]; rfl
          have x1 : wr.cell? ⟨xb, 1, none⟩ = some (.slice vo X.length vc) := by rw [cell_of_row wr xb 1 _ _ (0, 0) (unhide hbx).box]; rfl
          have HO6 := hide ((unhide ho).more (unhide hbx).grown)
          have HRN := hide (own_rd (unhide hbx).own)
          have HPOS : Hid (∀ b o, vo = some ⟨b, o, none⟩ → 0 < X.length) := fun _ _ _ => by rw [unhide HZL]; omega
          have HAW : Hid (∀ b o, vo = some ⟨b, o, none⟩ → (Value.slice so P.length sc).ownBlock ≠ some b) := fun b o e e2 => by
            have h1 := ((unhide ho).own.lt b e2).2
            have h2 := ((unhide hbx).own.lt b (by rw [e]; rfl)).1
            omega
          have HVB : Hid (∀ b o, vo = some ⟨b, o, none⟩ → w.heap.size ≤ b) := fun b o e => by
            have h2 := ((unhide hbx).own.lt b (by rw [e]; rfl)).1
            have h3 := (unhide ho).grown.size
            omega
          have HT7 : Hid ((P ++ [(⟨xw + yw, vo, vc, X⟩ : Hd)]).map hdTh ++ pairsG ((L.map hdTh).drop (2 * (p + 1))) = T) := by
            unfold Hid
            rw [List.map_append, List.append_assoc, ← unhide HT2, pairsG]
            show _ ++ ((⟨xw + yw, X⟩ : Th) :: pairsG _) = _
            rw [← unhide HZ]
            rfl
          have HPN7 : Hid (∀ h ∈ P ++ [(⟨xw + yw, vo, vc, X⟩ : Hd)], h.cs.length = q ∧ ∀ b o, h.co = some ⟨b, o, none⟩ → w.heap.size ≤ b) := fun h hh => by
            rcases List.mem_append.1 hh with hh | hh
            · exact unhide hPN h hh
            · rw [List.mem_singleton] at hh
              subst hh
              exact ⟨unhide HZL, fun b o e => unhide HVB b o e⟩
          have e7 : (i : Int) + 2 = ((2 * (p + 1) : Nat) : Int) := by omega
          clear hX hbx ho HT2 HZ HZS HQB HC1 HXC HYC HBL
          go_wp2_with (at_builtin; refine append_hd rfl _ _ rfl w (.slice so P.length sc) P rfl (unhide HO6) ⟨xw + yw, vo, vc, X⟩ _ rfl (unhide HRN) (unhide HPOS) (unhide HAW) rfl (by omega) ?_)
          intro v7 w7 o7 g7
          obtain ⟨so7, sc7, rfl⟩ := own_form o7.own
          have HO7 := hide o7
          clear o7 g7 HO6 HRN HPOS HAW
          go_wp2
          go_roundw
          case rel => exact ⟨p + 1, P ++ [⟨xw + yw, vo, vc, X⟩], by omega, by first | (rw [e7]) | go_num, HO7, HT7, HPN7⟩
          case measure => simp [intOf]; omega
    · have hd1 : decide ((i : Int) + 1 < (m : Int)) = false := decide_eq_false (by omega)
      have hT2 := unhide hT
      rw [pairs_short (by rw [List.length_map]; omega), List.append_nil] at hT2
      have HTP := hide hT2
      clear hT hT2
      have HO3 : Hid (OwnH wo (wo.alloc (.cells #[] 57)) (.slice (some ⟨wo.heap.size, 0, none⟩) 0 0) []) :=
        ⟨World.ownsRow_lit wo #[] 0 (Nat.le_refl _) (by unfold maxLen; omega) rfl, fun _ h => by simp at h, fun _ h => by simp at h, fun _ h => by simp at h, World.grownBy_alloc _ _ _⟩
      have HAO := hide ((unhide HA).grown (unhide ho).grown)
      have HPO := hide (own_rdH (unhide ho).own (unhide ho).rd)
      have HPL : Hid (P.length = T.length) := by unfold Hid; rw [← unhide HTP, List.length_map]
      have HGO := hide (unhide ho).grown
      have HPLT2 : Hid (∀ y, y < P.length → 0 < (P.getD y default).cs.length) := fun y hy => by
        have e : P.getD y default = P[y] := by simp [hy]
        rw [e, (unhide hPN _ (List.getElem_mem _)).1]; omega
      clear ho HL HWB HCB HCL
      go_wp2
      go_loopw [9, 10, 11] (fun v a b wr => ∃ (x y : Nat) (O : List Hd), x ≤ n ∧ y ≤ P.length ∧ a = .int .i64 x ∧ b = .int .i64 y ∧ Hid (OwnH wo wr v O) ∧ Hid (O.map hdTh ++ mergeG (AT.drop x) (T.drop y) = R) ∧ Hid (∀ h ∈ O, h ∈ A ∨ ∀ b o, h.co = some ⟨b, o, none⟩ → w.heap.size ≤ b)) (fun _ a b _ => n + P.length - (intOf a).toNat - (intOf b).toNat)
      case atStart => exact ⟨0, 0, [], Nat.zero_le _, Nat.zero_le _, rfl, rfl, HO3, unhide HR, fun _ h => by simp at h⟩
      case round =>
        clear HO3
        obtain ⟨x, y, O, hx, hy, rfl, rfl, hO, hR, hOA⟩ := hrel
        have hOl : O.length ≤ 512 := by
          have h2 : (O.map hdTh ++ mergeG (AT.drop x) (T.drop y)).length = R.length := by rw [unhide hR]
          rw [List.length_append, List.length_map] at h2
          omega
        obtain ⟨oo, oc, rfl⟩ := own_form (unhide hO).own
        by_cases hxn : x < n
        · have hd2 : decide ((x : Int) < (n : Int)) = true := decide_eq_true (by omega)
          obtain ⟨cb, co, hao, a0, a1⟩ := ((unhide HAO).grown (unhide hO).grown).2.1 x hxn
          have hca := (unhide HAO).counts hxn
          have hcp := unhide HALT x hxn
          have hATx : AT.drop x = hdTh (A.getD x default) :: AT.drop (x + 1) := by
            rw [← unhide HAT, List.drop_eq_getElem_cons (by rw [List.length_map, (unhide HA).1]; exact hxn)]
            simp [(unhide HA).1, hxn]
          have hmA : A.getD x default ∈ A := by
            have e : A.getD x default = A[x]'(by rw [(unhide HA).1]; exact hxn) := by simp [(unhide HA).1, hxn]
            rw [e]; exact List.getElem_mem _
          generalize A.getD x default = h at *
          obtain ⟨hw, ho, hcp', hs⟩ := h
          dsimp only at a0 a1 hca hcp
          have HOA : Hid (∀ h ∈ O ++ [(⟨hw, ho, hcp', hs⟩ : Hd)], h ∈ A ∨ ∀ b o, h.co = some ⟨b, o, none⟩ → w.heap.size ≤ b) := fun h hh => by
            rcases List.mem_append.1 hh with hh | hh
            · exact unhide hOA h hh
            · rw [List.mem_singleton] at hh
              subst hh
              exact .inl hmA
          have HRA : Hid (∀ w', wo.grownBy w' none → Rd .i64 w' ho hs.length hs) := fun w' g => hca.grown g
          have HPA : Hid (∀ b o, ho = some ⟨b, o, none⟩ → 0 < hs.length) := fun _ _ _ => hcp
          have HWA : Hid (∀ b o, ho = some ⟨b, o, none⟩ → (Value.slice oo O.length oc).ownBlock ≠ some b) := fun b o e e2 => by
            have h1 := ((unhide hO).own.lt b e2).1
            have h2 := hca.lt hcp b o e
            omega
          have hR1 := unhide hR
          have hATx2 := hATx
          rw [hATx] at hR1
          have hxI : (x : Int) < (n : Int) := by omega
          have ex := i64_in ((x : Int) + 1) (by omega)
          clear hca hATx hcp
          subst hao
          by_cases hyn : y < P.length
          · have hq1 : ((y : Int) == (P.length : Int)) = false := by simp; omega
            obtain ⟨qb, qo, hso, p0, p1⟩ := ((unhide HPO).grown (unhide hO).grown).2.1 y hyn
            have hcq := (unhide HPO).counts hyn
            have hcz := unhide HPLT2 y hyn
            have hTy : T.drop y = hdTh (P.getD y default) :: T.drop (y + 1) := by
              rw [← unhide HTP, List.drop_eq_getElem_cons (by rw [List.length_map]; exact hyn)]
              simp [hyn]
            have hmP : P.getD y default ∈ P := by
              have e : P.getD y default = P[y] := by simp [hyn]
              rw [e]; exact List.getElem_mem _
            have hnP := (unhide hPN _ hmP).2
            generalize P.getD y default = k at *
            obtain ⟨kw, ko, kcp, ks⟩ := k
            dsimp only at p0 p1 hcq hcz hnP
            have HOP : Hid (∀ h ∈ O ++ [(⟨kw, ko, kcp, ks⟩ : Hd)], h ∈ A ∨ ∀ b o, h.co = some ⟨b, o, none⟩ → w.heap.size ≤ b) := fun h hh => by
              rcases List.mem_append.1 hh with hh | hh
              · exact unhide hOA h hh
              · rw [List.mem_singleton] at hh
                subst hh
                exact .inr hnP
            have HRP : Hid (∀ w', wo.grownBy w' none → Rd .i64 w' ko ks.length ks) := fun w' g => hcq.grown g
            have HPP : Hid (∀ b o, ko = some ⟨b, o, none⟩ → 0 < ks.length) := fun _ _ _ => hcz
            have HWP : Hid (∀ b o, ko = some ⟨b, o, none⟩ → (Value.slice oo O.length oc).ownBlock ≠ some b) := fun b o e e2 => by
              have h1 := ((unhide hO).own.lt b e2).1
              have h2 := hcq.lt hcz b o e
              omega
            have hyI : (y : Int) < (P.length : Int) := by omega
            have ey := i64_in ((y : Int) + 1) (by omega)
            subst hso
            rw [hTy, mergeG] at hR1
            by_cases hle : hw ≤ kw
            · rw [if_pos (show (hdTh ⟨hw, ho, hcp', hs⟩).w ≤ (hdTh ⟨kw, ko, kcp, ks⟩).w from hle), ← hTy] at hR1
              have hd3 : decide (hw ≤ kw) = true := decide_eq_true hle
              have HR7 : Hid ((O ++ [(⟨hw, ho, hcp', hs⟩ : Hd)]).map hdTh ++ mergeG (AT.drop (x + 1)) (T.drop y) = R) := by
                unfold Hid; rw [List.map_append, List.append_assoc]; exact hR1
              clear hR1 hR hTy hcq hcz
              go_wp2
              go_quiet (fail)
              go_wp2_with (at_builtin; refine append_hd rfl _ _ rfl wo (.slice oo O.length oc) O rfl ((unhide hO).more (grown_drewN (World.grownBy.refl _ _) _)) ⟨hw, ho, hcp', hs⟩ _ rfl (unhide HRA _ (grown_drewN (unhide hO).grown _)) (unhide HPA) (unhide HWA) rfl (by omega) ?_)
              intro v7 w7 o7 g7
              obtain ⟨so7, sc7, rfl⟩ := own_form o7.own
              have HO7 := hide o7
              clear o7 g7
              go_wp2
              go_roundw
              case rel => exact ⟨x + 1, y, O ++ [(⟨hw, ho, hcp', hs⟩ : Hd)], by omega, by omega, by go_num, rfl, HO7, HR7, HOA⟩
              case measure => simp [intOf]; omega
            · rw [if_neg (show ¬ (hdTh ⟨hw, ho, hcp', hs⟩).w ≤ (hdTh ⟨kw, ko, kcp, ks⟩).w from hle)] at hR1
              have hd3 : decide (hw ≤ kw) = false := decide_eq_false hle
              have HR7 : Hid ((O ++ [(⟨kw, ko, kcp, ks⟩ : Hd)]).map hdTh ++ mergeG (AT.drop x) (T.drop (y + 1)) = R) := by
                unfold Hid; rw [List.map_append, List.append_assoc, hATx2]; exact hR1
              clear hR1 hR hTy hcq hcz
              go_wp2
              go_quiet (fail)
              go_wp2_with (at_builtin; refine append_hd rfl _ _ rfl wo (.slice oo O.length oc) O rfl ((unhide hO).more (grown_drewN (World.grownBy.refl _ _) _)) ⟨kw, ko, kcp, ks⟩ _ rfl (unhide HRP _ (grown_drewN (unhide hO).grown _)) (unhide HPP) (unhide HWP) rfl (by omega) ?_)
              intro v7 w7 o7 g7
              obtain ⟨so7, sc7, rfl⟩ := own_form o7.own
              have HO7 := hide o7
              clear o7 g7
              go_wp2
              go_roundw
              case rel => exact ⟨x, y + 1, O ++ [(⟨kw, ko, kcp, ks⟩ : Hd)], by omega, by omega, rfl, by go_num, HO7, HR7, HOP⟩
              case measure => simp [intOf]; omega
          · obtain rfl : y = P.length := by omega
            have hq1 : ((P.length : Int) == (P.length : Int)) = true := by simp
            have hTy : T.drop P.length = [] := List.drop_eq_nil_of_le (by rw [unhide HPL]; exact Nat.le_refl _)
            rw [hTy, mergeG] at hR1
            have HR7 : Hid ((O ++ [(⟨hw, ho, hcp', hs⟩ : Hd)]).map hdTh ++ mergeG (AT.drop (x + 1)) (T.drop P.length) = R) := by
              unfold Hid; rw [List.map_append, List.append_assoc, hTy, merge_nil]; exact hR1
            clear hR1 hR hTy
            go_wp2
            go_quiet (fail)
            go_wp2_with (at_builtin; refine append_hd rfl _ _ rfl wo (.slice oo O.length oc) O rfl ((unhide hO).more (grown_drewN (World.grownBy.refl _ _) _)) ⟨hw, ho, hcp', hs⟩ _ rfl (unhide HRA _ (grown_drewN (unhide hO).grown _)) (unhide HPA) (unhide HWA) rfl (by omega) ?_)
            intro v7 w7 o7 g7
            obtain ⟨so7, sc7, rfl⟩ := own_form o7.own
            have HO7 := hide o7
            clear o7 g7
            go_wp2
            go_roundw
            case rel => exact ⟨x + 1, P.length, O ++ [(⟨hw, ho, hcp', hs⟩ : Hd)], by omega, Nat.le_refl _, by go_num, rfl, HO7, HR7, HOA⟩
            case measure => simp [intOf]; omega
        · obtain rfl : x = n := by omega
          have hd2 : decide ((x : Int) < (x : Int)) = false := decide_eq_false (by omega)
          have hATx : AT.drop x = [] := List.drop_eq_nil_of_le (by rw [unhide HATL]; exact Nat.le_refl _)
          have hR1 := unhide hR
          rw [hATx] at hR1
          by_cases hyn : y < P.length
          · have hq1 : ((y : Int) == (P.length : Int)) = false := by simp; omega
            have hq2 : decide ((y : Int) < (P.length : Int)) = true := decide_eq_true (by omega)
            obtain ⟨qb, qo, hso, p0, p1⟩ := ((unhide HPO).grown (unhide hO).grown).2.1 y hyn
            have hcq := (unhide HPO).counts hyn
            have hcz := unhide HPLT2 y hyn
            have hTy : T.drop y = hdTh (P.getD y default) :: T.drop (y + 1) := by
              rw [← unhide HTP, List.drop_eq_getElem_cons (by rw [List.length_map]; exact hyn)]
              simp [hyn]
            have hmP : P.getD y default ∈ P := by
              have e : P.getD y default = P[y] := by simp [hyn]
              rw [e]; exact List.getElem_mem _
            have hnP := (unhide hPN _ hmP).2
            generalize P.getD y default = k at *
            obtain ⟨kw, ko, kcp, ks⟩ := k
            dsimp only at p0 p1 hcq hcz hnP
            have HOP : Hid (∀ h ∈ O ++ [(⟨kw, ko, kcp, ks⟩ : Hd)], h ∈ A ∨ ∀ b o, h.co = some ⟨b, o, none⟩ → w.heap.size ≤ b) := fun h hh => by
              rcases List.mem_append.1 hh with hh | hh
              · exact unhide hOA h hh
              · rw [List.mem_singleton] at hh
                subst hh
                exact .inr hnP
            have HRP : Hid (∀ w', wo.grownBy w' none → Rd .i64 w' ko ks.length ks) := fun w' g => hcq.grown g
            have HPP : Hid (∀ b o, ko = some ⟨b, o, none⟩ → 0 < ks.length) := fun _ _ _ => hcz
            have HWP : Hid (∀ b o, ko = some ⟨b, o, none⟩ → (Value.slice oo O.length oc).ownBlock ≠ some b) := fun b o e e2 => by
              have h1 := ((unhide hO).own.lt b e2).1
              have h2 := hcq.lt hcz b o e
              omega
            have hyI : (y : Int) < (P.length : Int) := by omega
            have ey := i64_in ((y : Int) + 1) (by omega)
            subst hso
            rw [hTy, mergeG] at hR1
            have HR7 : Hid ((O ++ [(⟨kw, ko, kcp, ks⟩ : Hd)]).map hdTh ++ mergeG (AT.drop x) (T.drop (y + 1)) = R) := by
              unfold Hid; rw [List.map_append, List.append_assoc, hATx, mergeG]; exact hR1
            clear hR1 hR hTy hcq hcz hATx
            go_wp2
            go_quiet (fail)
            go_wp2_with (at_builtin; refine append_hd rfl _ _ rfl wo (.slice oo O.length oc) O rfl ((unhide hO).more (grown_drewN (World.grownBy.refl _ _) _)) ⟨kw, ko, kcp, ks⟩ _ rfl (unhide HRP _ (grown_drewN (unhide hO).grown _)) (unhide HPP) (unhide HWP) rfl (by omega) ?_)
            intro v7 w7 o7 g7
            obtain ⟨so7, sc7, rfl⟩ := own_form o7.own
            have HO7 := hide o7
            clear o7 g7
            go_wp2
            go_roundw
            case rel => exact ⟨x, y + 1, O ++ [(⟨kw, ko, kcp, ks⟩ : Hd)], by omega, by omega, rfl, by go_num, HO7, HR7, HOP⟩
            case measure => simp [intOf]; omega
          · obtain rfl : y = P.length := by omega
            have hq2 : decide ((P.length : Int) < (P.length : Int)) = false := decide_eq_false (by omega)
            rw [List.drop_eq_nil_of_le (show T.length ≤ P.length by rw [unhide HPL]; exact Nat.le_refl _), mergeG, List.append_nil] at hR1
            have HRF := hide hR1
            clear hR1 hR hATx
            go_wp2
            go_ret
            exact ⟨_, O, rfl, ⟨own_base (unhide hO).own (unhide HGO).size, (unhide hO).rd, (unhide hO).away, (unhide hO).lt, grown_trans (unhide HGO) (unhide hO).grown⟩, unhide HRF, unhide hOA⟩

end Go.Proofs.Ytcbaiagkdphkeaa
