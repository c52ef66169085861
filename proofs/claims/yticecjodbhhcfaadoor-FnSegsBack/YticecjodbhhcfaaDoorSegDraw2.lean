/-
  The walks of what draws segments to be written, and bytes to be read.
-/
import Derived.Test.YticecjodbhhcfaaDoorSegSpoil
import Derived.Test.YticecjodbhhcfaaDoorSegWriteSpec
namespace Go.Proofs.YticecjodbhhcfaaDoor
open Go.RowKit

theorem own_le {w : World} {base : Nat} {e : TypeId} {bo : Option Addr} {m c : Nat} {xs : List Value} (h : w.ownsRow base e 1 (.slice bo m c) m xs) : m ≤ c := by
  rcases h.2 with ⟨hv, h2⟩ | ⟨g, c', cur, hv, _, _, hle, _⟩
  · omega
  · simp at hv; obtain ⟨_, rfl⟩ := hv; exact hle

set_option maxRecDepth 20000 in
set_option maxHeartbeats 6400000 in
theorem drawWriteSegs (ao : Option Addr) (n cap : Nat) (zs : List Int) (w : World) (hr : Rd .u8 w ao n zs) (hb : ∀ i, 0 ≤ zs.getD i 0 ∧ zs.getD i 0 ≤ 255) (hn : n ≤ 1048576) :
    Calls Tryd.prog 5 #[.slice ao n cap] w fun e w' => ∃ (ss : List (Int × List Int)) (vo : Option Addr) (vc : Nat), e = .returned (.slice vo ss.length vc) ∧ OwnS w' w.heap.size w'.heap.size (.slice vo ss.length vc) ss ∧ ss.length ≤ 324 ∧ GoodS ss ∧ w.grownBy w' none := by
  obtain ⟨ib, hib, hb0, hb1, hb2⟩ := info_parts Tryd.info5
  have HR := hide hr
  have HB := hide hb
  have HC0 := hide hr.lt
  clear hr hb
  go_enter Tryd.func5, Tryd.ntmps5
  go_wp2_with fail
  refine (open_of ao n cap zs w (unhide HR) (unhide HB) hn).mono ?_
  rintro e w1 ⟨rfl, c1, g1⟩
  have hz1 : w.heap.size < w1.heap.size := c1.lt
  go_wp2_with fail
  refine (drawSegs w.heap.size ao n cap 0 zs w1 c1 (by omega)).mono ?_
  rintro e w2 ⟨ss, vo, vc, p2, rfl, o2, hsl, hgd, c2, hp2, g2⟩
  have O2 := hide o2
  have HGD := hide hgd
  have hz2 := g2.size
  clear o2 hgd c1
  go_wp2_with fail
  refine (once_of w.heap.size ao n cap p2 30 zs w2 c2 (by omega) (by omega) (by omega)).mono ?_
  rintro e w2b ⟨tt, p2b, rfl, c2b, hp2b, g2b⟩
  have O2b := hide (((unhide O2).cur g2b (Nat.le_refl _) hz1).base (hi' := w2b.heap.size) (Nat.le_refl _) g2b.size)
  have G2b := grown_trans g2 g2b
  have hz2b := G2b.size
  clear c2 O2 g2 g2b
  cases tt
  · have O2c := hide ((unhide O2b).base (lo' := w.heap.size) (hi' := w2b.heap.size) (by omega) (Nat.le_refl _))
    have GF := grown_new g1 G2b (fun g e => by simp at e; omega)
    go_wp2
    go_ret
    exact ⟨ss, vo, vc, rfl, unhide O2c, by omega, unhide HGD, GF⟩
  · go_wp2
    go_loopw [4, 5] (fun v i wr => ∃ (s2 : List (Int × List Int)) (j q2 : Nat), i = .int .i64 j ∧ j ≤ 4 ∧ s2.length ≤ 320 + j ∧ q2 ≤ 4000 + 2 * j ∧ GoodS s2 ∧ Cur wr w.heap.size ao n cap zs q2 ∧ OwnS wr w1.heap.size wr.heap.size v s2 ∧ w1.grownBy wr (some w.heap.size)) (fun _ i _ => 4 - (intOf i).toNat)
    case atStart => exact ⟨ss, 0, p2b, rfl, by omega, by omega, by omega, unhide HGD, c2b, unhide O2b, G2b⟩
    case round =>
      obtain ⟨s2, j, q2, rfl, hj, hs2, hq2, hg2, hc2, ho2, hgr2⟩ := hrel
      obtain ⟨so2, sc2, rfl⟩ := ho2.form
      have HG2 := hide hg2
      have hzr2 := hgr2.size
      clear hg2 c2b O2b G2b
      by_cases hlt : j < 4
      · have hd : decide ((j : Int) < 4) = true := decide_eq_true (by omega)
        go_wp2_with fail
        refine (pick_of w.heap.size ao n cap q2 300 zs _ hc2 (by omega) (by omega) (by omega)).mono ?_
        rintro e w3 ⟨x, p3, rfl, hx0, hx1, c3, hp3, g3⟩
        have O3 := hide (ho2.cur g3 (Nat.le_refl _) hz1)
        have G3 := grown_trans hgr2 g3
        have hz3 := g3.size
        obtain ⟨t, hxt⟩ := Int.eq_ofNat_of_zero_le (show 0 ≤ 20000 - x by omega)
        have ht : t ≤ 20001 := by omega
        have HXT := hide hxt
        clear hxt hc2 ho2 hgr2 g3
        go_wp2_with (at_make; refine wpList_make_full _ rfl _ _ 22 rfl w3.heap.size 5 ib (.int .u8 0) 1 Tryd.underlying22 hib hb0 hb1 .i64 .i64 _ _ t rfl rfl (unhide HXT) (unhide HXT) (by rw [hb2]; omega) (by unfold maxLen; omega) (Nat.le_refl _) ?_)
        intro w4 hown4 hgrow4
        have OD4 : Hid (w4.ownsRow w3.heap.size 5 1 (.slice (some ⟨w3.heap.size, 0, none⟩) t t) (List.replicate t (0 : Int)).length ((List.replicate t (0 : Int)).map (Value.int .u8))) := by
          unfold Hid
          rw [List.length_replicate, List.map_replicate]
          have e : (madeCells #[Value.int .u8 0] t).toList = List.replicate t (.int .u8 0) := toList_madeCells_one _ _
          rw [← e]; exact hown4
        have O4 := hide ((unhide O3).grown hgrow4 hz3)
        have hz4 := hgrow4.size
        have O4a := hide ((unhide O4).grown (World.grownBy_alloc w4 (.cells #[.int .i64 5, .slice (some ⟨w3.heap.size, 0, none⟩) t t] 41) none) (by omega))
        have HN4 := hide (heap_alloc_new w4 (.cells #[.int .i64 5, .slice (some ⟨w3.heap.size, 0, none⟩) t t] 41))
        have HZ4 : Hid ((w4.alloc (.cells #[.int .i64 5, .slice (some ⟨w3.heap.size, 0, none⟩) t t] 41)).heap.size = w4.heap.size + 1) := by unfold Hid; simp
        have OD5 := hide ((unhide OD4).alloc (.cells #[.int .i64 5, .slice (some ⟨w3.heap.size, 0, none⟩) t t] 41))
        have HC4 := hide ((c3.grown hgrow4).grown (World.grownBy_alloc w4 (.cells #[.int .i64 5, .slice (some ⟨w3.heap.size, 0, none⟩) t t] 41) none))
        have HGa := hide (grown_tb (grown_tb G3 hgrow4 (fun g e => by simp at e)) (World.grownBy_alloc w4 (.cells #[.int .i64 5, .slice (some ⟨w3.heap.size, 0, none⟩) t t] 41) none) (fun g e => by simp at e))
        clear hown4 hgrow4 OD4 O4 O3 c3 G3
        go_wp2_with (at_builtin; refine append_seg rfl _ _ rfl w1.heap.size wr.heap.size w3.heap.size (.slice so2 s2.length sc2) s2 rfl (unhide O4a) (by have := unhide HZ4; omega) (by omega) hz3 _ _ (.slice (some ⟨w3.heap.size, 0, none⟩) t t) (List.replicate t (0 : Int)) rfl (unhide HN4) (unhide OD5) (by omega) (by have := unhide HZ4; omega) ?_; intro v7 w7 hO7 hg7 hv7)
        have hc7 := (unhide HC4).beside hg7 (fun g e => by
          have := hv7 g e
          exact ⟨by omega, fun h b off e' => by have := unhide HC0 h b off e'; omega⟩)
        have G7 := grown_tb (unhide HGa) hg7 (fun g e => (hv7 g e).1)
        have hgood := (unhide HG2).push (m := 5) (zs := List.replicate t (0 : Int)) (by rw [List.length_replicate]; exact ht) (fun x hx => by have := List.eq_of_mem_replicate hx; omega)
        obtain ⟨so7, sc7, rfl⟩ := hO7.form
        have HO7 := hide hO7
        have HGD7 := hide hgood
        clear hO7 hg7 hv7 hgood O4a HN4 OD5 HC4 HGa
        go_wp2
        go_roundw
        case rel => exact ⟨_, j + 1, p3, by go_num, by omega, by simp; omega, by omega, unhide HGD7, hc7, unhide HO7, G7⟩
        case measure => simp [intOf]; omega
      · have hd : decide ((j : Int) < 4) = false := decide_eq_false (by omega)
        have O3 := hide (ho2.base (lo' := w.heap.size) (hi' := wr.heap.size) (by omega) (Nat.le_refl _))
        have GF := grown_new g1 hgr2 (fun g e => by simp at e; omega)
        go_wp2
        go_ret
        exact ⟨s2, so2, sc2, rfl, unhide O3, by omega, unhide HG2, GF⟩

theorem writeS_short (ss : List (Int × List Int)) : (writeS ss).length ≤ 60000 := by
  unfold writeS
  split
  · rename_i h; simp; omega
  · simp
theorem stuffL_bytes : ∀ (l : List Int), (∀ x ∈ l, 0 ≤ x ∧ x ≤ 255) → ∀ x ∈ stuffL l, 0 ≤ x ∧ x ≤ 255 := by
  intro l h x hx
  unfold stuffL at hx
  obtain ⟨a, ha, hx⟩ := List.mem_flatMap.1 hx
  split at hx
  · simp at hx
    rcases hx with rfl | rfl
    · exact h _ ha
    · omega
  · simp at hx; subst hx; exact h _ ha
theorem writeS_bytes {ss : List (Int × List Int)} (h : GoodS ss) : ∀ x ∈ writeS ss, 0 ≤ x ∧ x ≤ 255 := by
  intro x hx
  unfold writeS at hx
  split at hx
  · rename_i hk
    rcases List.mem_append.1 hx with h1 | h1
    · unfold bodyS at h1
      rcases List.mem_append.1 h1 with h2 | h2
      · simp at h2; omega
      · obtain ⟨s, hs, h3⟩ := List.mem_flatMap.1 h2
        obtain ⟨i, hi, rfl⟩ := List.getElem_of_mem hs
        have hg := okS_get hk.1 i hi
        have e : ss.getD i (0, []) = ss[i] := by simp [hi]
        rw [e] at hg
        have hkb := kind_bounds ss[i].1
        have hgs := h _ hs
        unfold segBytes at h3
        split at h3
        · rename_i hk1
          have hb := hkb.1 hk1
          rcases List.mem_append.1 h3 with h4 | h4
          · simp at h4
            rcases h4 with rfl | rfl | rfl | rfl <;> omega
          · exact hgs.2 _ h4
        · split at h3
          · rename_i hk2
            have hb := hkb.2 hk2
            simp at h3
            rcases h3 with rfl | rfl <;> omega
          · exact stuffL_bytes _ hgs.2 _ h3
    · simp at h1; omega
  · simp at hx

set_option maxRecDepth 20000 in
set_option maxHeartbeats 6400000 in
theorem drawReadSegs (ao : Option Addr) (n cap : Nat) (zs : List Int) (w : World) (hr : Rd .u8 w ao n zs) (hb : ∀ i, 0 ≤ zs.getD i 0 ∧ zs.getD i 0 ≤ 255) (hn : n ≤ 1048576) :
    Calls Tryd.prog 13 #[.slice ao n cap] w fun e w' => ∃ (ys : List Int) (ro : Option Addr) (rc : Nat), e = .returned (.slice ro ys.length rc) ∧ ys.length ≤ 60002 ∧ (∀ x ∈ ys, 0 ≤ x ∧ x ≤ 255) ∧
      w'.ownsRow w.heap.size 5 1 (.slice ro ys.length rc) ys.length (ys.map (Value.int .u8)) ∧ w.grownBy w' none := by
  obtain ⟨ib, hib, hb0, hb1, hb2⟩ := info_parts Tryd.info5
  have HR := hide hr
  have HB := hide hb
  have HC0 := hide hr.lt
  clear hr hb
  go_enter Tryd.func13, Tryd.ntmps13
  go_wp2_with fail
  refine (open_of ao n cap zs w (unhide HR) (unhide HB) hn).mono ?_
  rintro e w1 ⟨rfl, c1, g1⟩
  have hz1 : w.heap.size < w1.heap.size := c1.lt
  go_wp2_with fail
  refine (drawSegs w.heap.size ao n cap 0 zs w1 c1 (by omega)).mono ?_
  rintro e w2 ⟨ss, vo, vc, p2, rfl, o2, hsl, hgd, c2, hp2, g2⟩
  have hz2 := g2.size
  have hwl := writeS_short ss
  have HWB := hide (writeS_bytes hgd)
  clear c1 hgd
  go_wp2_with fail
  refine (specWriteSegs vo ss.length vc ss w2 o2.rd).mono ?_
  rintro e w3 ⟨bo, bc, rfl, oW, g3⟩
  have O3 := hide oW
  have c3 := c2.grown g3
  have G3 := grown_tb g2 g3 (fun g e => by simp at e)
  have hz3 := g3.size
  clear c2 g2 g3 oW o2
  generalize writeS ss = zw at *
  go_wp2_with fail
  refine (once_of w.heap.size ao n cap p2 2 zs w3 c3 (by omega) (by omega) (by omega)).mono ?_
  rintro e w4 ⟨t1, p4, rfl, c4, hp4, g4⟩
  have O4 := hide (own_beneath (unhide O3) g4 (fun g g' h h' => by have := ((unhide O3).lt g h).1; simp at h'; omega))
  have G4 := grown_trans G3 g4
  have hz4 := g4.size
  clear c3 O3 G3 g4
  cases t1
  · have O5 := O4
    have c5 := c4
    have G5 := G4
    have HYB := HWB
    clear O4 c4 G4
    go_wp2_with fail
    refine (once_of w.heap.size ao n cap p4 20 zs w4 c5 (by omega) (by omega) (by omega)).mono ?_
    rintro e w6 ⟨t2, p6, rfl, c6, hp6, g6⟩
    have O6 := hide (own_beneath (unhide O5) g6 (fun g g' h h' => by have := ((unhide O5).lt g h).1; simp at h'; omega))
    have G6 := grown_trans G5 g6
    have hz6 := g6.size
    clear c5 O5 G5 g6
    cases t2
    · have GF := grown_new g1 G6 (fun g e => by simp at e; omega)
      go_wp2
      go_ret
      exact ⟨zw, bo, bc, rfl, by omega, unhide HYB, own_base (unhide O6) (by omega), GF⟩
    · go_wp2_with fail
      refine (pick_of w.heap.size ao n cap p6 3 zs w6 c6 (by omega) (by omega) (by omega)).mono ?_
      rintro e w7 ⟨a, p7, rfl, ha0, ha1, c7, hp7, g7⟩
      have O7 := hide (own_beneath (unhide O6) g7 (fun g g' h h' => by have := ((unhide O6).lt g h).1; simp at h'; omega))
      have G7 := grown_trans G6 g7
      have hz7 := g7.size
      clear c6 O6 G6 g7
      go_wp2_with (at_builtin; refine wpList_append_own _ rfl _ _ 22 rfl w2.heap.size 5 ib (.int .u8 0) 1 1 Tryd.underlying22 hib hb0 hb1 hb2 rfl (by decide) (.slice bo (zw).length bc) (zw).length ((zw).map (Value.int .u8)) rfl ((unhide O7).alloc _) ⟨w7.heap.size, 0, none⟩ 1 1 [.int .u8 a] rfl rfl (cell_one_new _ _ _) (by intro q hq; simp at hq; subst hq; rfl) (by unfold maxLen; omega) (by omega) (by simp; omega) ?_)
      intro v8 w8 hown8 hgrow8 _
      have hv8 : ∀ g, (Value.slice bo (zw).length bc).ownBlock = some g → w2.heap.size ≤ g := fun g e => ((unhide O7).lt g e).1
      have O8 := hide (own_as hown8 (n' := (zw ++ [a]).length) (xs' := (zw ++ [a]).map (Value.int .u8)) (by simp) (by simp))
      obtain ⟨so8, sc8, hv⟩ := own_form (unhide O8)
      subst hv
      have GF := grown_new g1 (grown_tb (grown_tb G7 (World.grownBy_alloc w7 (.cells #[.int .u8 a] 5) none) (fun g e => by simp at e)) hgrow8 (fun g e => by have := hv8 g e; omega)) (fun g e => by simp at e; omega)
      have HYB8 := hide (bytes_push (unhide HYB) (show 0 ≤ a ∧ a ≤ 255 from ⟨ha0, by omega⟩))
      clear hown8 hgrow8 hv8 O7 G7 c7
      go_wp2
      go_ret
      exact ⟨_, so8, sc8, rfl, by simp; omega, unhide HYB8, own_base (unhide O8) (by omega), GF⟩
  · go_wp2_with fail
    refine (spoil w.heap.size ao n cap p4 zs w4 c4 (by omega) w2.heap.size (by omega) (fun h b off e => by have := unhide HC0 h b off e; omega) bo zw.length bc zw (unhide O4) (by omega) (unhide HWB) (by omega)).mono ?_
    rintro e w5 ⟨ys, ro, rc, p5, rfl, hyl, hyb, o5, c5, hp5, g5⟩
    have O5 := hide o5
    have G5 := grown_trans G4 g5
    have HYB := hide hyb
    have hz5 := g5.size
    clear o5 hyb g5 c4 O4 G4
    go_wp2_with fail
    refine (once_of w.heap.size ao n cap p5 20 zs w5 c5 (by omega) (by omega) (by omega)).mono ?_
    rintro e w6 ⟨t2, p6, rfl, c6, hp6, g6⟩
    have O6 := hide (own_beneath (unhide O5) g6 (fun g g' h h' => by have := ((unhide O5).lt g h).1; simp at h'; omega))
    have G6 := grown_trans G5 g6
    have hz6 := g6.size
    clear c5 O5 G5 g6
    cases t2
    · have GF := grown_new g1 G6 (fun g e => by simp at e; omega)
      go_wp2
      go_ret
      exact ⟨ys, ro, rc, rfl, by omega, unhide HYB, own_base (unhide O6) (by omega), GF⟩
    · go_wp2_with fail
      refine (pick_of w.heap.size ao n cap p6 3 zs w6 c6 (by omega) (by omega) (by omega)).mono ?_
      rintro e w7 ⟨a, p7, rfl, ha0, ha1, c7, hp7, g7⟩
      have O7 := hide (own_beneath (unhide O6) g7 (fun g g' h h' => by have := ((unhide O6).lt g h).1; simp at h'; omega))
      have G7 := grown_trans G6 g7
      have hz7 := g7.size
      clear c6 O6 G6 g7
      go_wp2_with (at_builtin; refine wpList_append_own _ rfl _ _ 22 rfl w2.heap.size 5 ib (.int .u8 0) 1 1 Tryd.underlying22 hib hb0 hb1 hb2 rfl (by decide) (.slice ro (ys).length rc) (ys).length ((ys).map (Value.int .u8)) rfl ((unhide O7).alloc _) ⟨w7.heap.size, 0, none⟩ 1 1 [.int .u8 a] rfl rfl (cell_one_new _ _ _) (by intro q hq; simp at hq; subst hq; rfl) (by unfold maxLen; omega) (by omega) (by simp; omega) ?_)
      intro v8 w8 hown8 hgrow8 _
      have hv8 : ∀ g, (Value.slice ro (ys).length rc).ownBlock = some g → w2.heap.size ≤ g := fun g e => ((unhide O7).lt g e).1
      have O8 := hide (own_as hown8 (n' := (ys ++ [a]).length) (xs' := (ys ++ [a]).map (Value.int .u8)) (by simp) (by simp))
      obtain ⟨so8, sc8, hv⟩ := own_form (unhide O8)
      subst hv
      have GF := grown_new g1 (grown_tb (grown_tb G7 (World.grownBy_alloc w7 (.cells #[.int .u8 a] 5) none) (fun g e => by simp at e)) hgrow8 (fun g e => by have := hv8 g e; omega)) (fun g e => by simp at e; omega)
      have HYB8 := hide (bytes_push (unhide HYB) (show 0 ≤ a ∧ a ≤ 255 from ⟨ha0, by omega⟩))
      clear hown8 hgrow8 hv8 O7 G7 c7
      go_wp2
      go_ret
      exact ⟨_, so8, sc8, rfl, by simp; omega, unhide HYB8, own_base (unhide O8) (by omega), GF⟩

end Go.Proofs.YticecjodbhhcfaaDoor
