/-
  FillImpl, FixCoefs, FixCoefs2, GiveCoefs, BestPure.
-/
import Derived.Test.YtdhgfbdanijgaaaMDe

namespace Go.Proofs.Ytdhgfbdanijgaaa
open Go.RowKit Go.Shelf

attribute [local go_sem] Oper.semAt_some

theorem load_bool {w : World} {g : Nat} {v : Value} (hc : w.cell? ⟨g, 0, none⟩ = some v) : (loadVar 4 ⟨g, 0, none⟩).run Try.prog w = .ok v w := by
  have hg : (isAgg 4).run Try.prog w = .ok false w := by
    unfold isAgg
    rw [Sem.run_bind, run_underlying Try.underlying4 w]
    rfl
  simp [loadVar, hg, go_sem, hc]

set_option maxRecDepth 100000 in
set_option maxHeartbeats 6400000 in
theorem fillPlanes (X : Array Value) (p wd ht rs : Int) (n : Nat) (C : Nat → Nat → Int) (hX : Fx X p wd ht rs n C) (hg : Geo wd ht n C (mostA 1 C 1 n) (mostA 1 C 2 n)) (gv : Value) (G : List Gd) (F : List Nat) (w : World) (hO : OwGr w gv G F) (hF : F.Nodup) (hl : G.length = n) (c : Nat) (hc : c < n) (L : List (List Int)) (hGc : G.getD c (0, 0, []) = (bwG wd n C c, bhG ht n C c, L)) (hL : L.length = bwG wd n C c * bhG ht n C c)
    (B : World) (hB : B.grownBy w none) (hFB : ∀ x ∈ F, B.heap.size ≤ x) (bv : Value) (P : List (List Int)) (hP : Rd2 B bv P) (t : Bool) (HT : Hid (planeB (bwG wd n C c) (bhG ht n C c) (nwG wd n C c) (nhG ht n C c) P = t)) :
    Calls Try.prog 25 #[.agg (plV X gv), .int .i64 (c : Int), bv] w fun e w' => e = .returned (.bool t) ∧ (∃ g ∈ F, Wr [g] w w') ∧ (t = true → ∃ F', OwGr w' gv (G.set c (bwG wd n C c, bhG ht n C c, P)) F' ∧ F'.Nodup ∧ ∀ x ∈ F', x ∈ F) := by
  have hd := dims_of hg c hc
  have hs := hX.size
  obtain ⟨po, pc, rfl, hPr⟩ := hP
  obtain ⟨gr, gcap, g, gc, rfl, q0, q1, q2, tg, hgr, hgF, hne, turn⟩ := grid_at hO hF c (by omega)
  rw [hGc] at q0 q1 q2 tg turn
  dsimp only at q0 q1 q2 tg turn
  have hwd := hd.bw1
  have hht := hd.bh1
  have hgl := okGr.lt _ _ _ _ hO g hgF
  have hgB := hFB g hgF
  have hBw := hB.size
  have hmul : bwG wd n C c * bhG ht n C c ≤ 128 * 128 := Nat.mul_le_mul hwd.2 hht.2
  have HX := hide hX
  have HGE := hide hg
  have HSX := hide hs
  have HD := hide hd
  generalize hbw : bwG wd n C c = bw at *
  generalize hbh : bhG ht n C c = bh at *
  have HBW := hide hbw
  have HBH := hide hbh
  rw [hl] at turn ⊢
  clear hX hg hs hO hF hd hbw hbh hGc
  obtain ⟨W4, hW4⟩ : ∃ W4, (((w.alloc (.cells (plV X (.slice (some ⟨gr, 0, none⟩) n gcap)) 56)).alloc (.cells #[.int .i64 (c : Int)] 3)).alloc (.cells #[.slice po P.length pc] 41)).alloc (.cells #[.bool false] 4) = W4 := ⟨_, rfl⟩
  have G4 : w.grownBy W4 none := by rw [← hW4]; exact grown_alloc (grown_alloc (grown_alloc (World.grownBy_alloc _ _ _) _) _) _
  have s4 : W4.heap.size = w.heap.size + 4 := by rw [← hW4]; simp
  have p3 : W4.heap[w.heap.size]? = some (.cells (plV X (.slice (some ⟨gr, 0, none⟩) n gcap)) 56 (0, 0)) := by
    rw [← hW4, Below.heap_alloc _ _ _ (by simp <;> omega), Below.heap_alloc _ _ _ (by simp <;> omega), Below.heap_alloc _ _ _ (by simp)]; exact heap_alloc_new w _
  have p4 : W4.heap[w.heap.size + 1]? = some (.cells #[.int .i64 (c : Int)] 3 (0, 0)) := by
    rw [← hW4, Below.heap_alloc _ _ _ (by simp <;> omega), Below.heap_alloc _ _ _ (by simp)]
    have := heap_alloc_new (w.alloc (.cells (plV X (.slice (some ⟨gr, 0, none⟩) n gcap)) 56)) (.cells #[.int .i64 (c : Int)] 3)
    simpa using this
  have p5 : W4.heap[w.heap.size + 1 + 1]? = some (.cells #[.slice po P.length pc] 41 (0, 0)) := by
    rw [← hW4, Below.heap_alloc _ _ _ (by simp)]
    have := heap_alloc_new ((w.alloc (.cells (plV X (.slice (some ⟨gr, 0, none⟩) n gcap)) 56)).alloc (.cells #[.int .i64 (c : Int)] 3)) (.cells #[.slice po P.length pc] 41)
    simpa using this
  have p6 : W4.heap[w.heap.size + 1 + 1 + 1]? = some (.cells #[.bool false] 4 (0, 0)) := by
    rw [← hW4]
    have := heap_alloc_new (((w.alloc (.cells (plV X (.slice (some ⟨gr, 0, none⟩) n gcap)) 56)).alloc (.cells #[.int .i64 (c : Int)] 3)).alloc (.cells #[.slice po P.length pc] 41)) (.cells #[.bool false] 4)
    simpa using this
  have k3 := (pl_grids (unhide HSX) p3).1
  have k4 : W4.cell? ⟨w.heap.size + 1, 0, none⟩ = some (.int .i64 (c : Int)) := by rw [cell_of_row W4 _ 0 _ _ (0, 0) p4]; rfl
  have QM := hide (grid_mid (G4.cell q0 (by simp)) (G4.cell q1 (by simp)) (G4.cell q2 (by simp)))
  have T4 := hide (tg.grown G4)
  have TURN := hide turn
  have HG4 := hide G4
  have HW4 := hide hW4
  have P3 := hide p3
  have P4 := hide p4
  have P5 := hide p5
  have P6 := hide p6
  have HPR := hide hPr
  have HBg := hide hB
  have HB7 := hide (heap_alloc_new W4 (.cells #[.int .i64 0, .int .i64 0, .slice none 0 0] 76))
  have i0 : (0 : Int) ≤ (c : Int) := by omega
  have i1 : (c : Int) < (n : Int) := by omega
  have HS4 := hide s4
  have HLL := hide hL
  clear q0 q1 q2 tg turn G4 hW4 p3 p4 p5 p6 hPr hB s4 hL
  refine (callsIn_wide (n := 0)).1 ?_
  refine callsIn_of_wp_marks Try.func25 rfl trivial ?_ rfl
  refine wpIn_wide.2 ?_
  simp only [Try.ntmps25, List.size_toArray, List.length_cons, List.length_nil, Nat.reduceAdd, Nat.reduceSub, Array.replicate_succ, Array.replicate_zero, List.push_toArray, List.append_toArray, List.nil_append, List.cons_append]
  go_wp2_with (first | (rw [unhide HW4]; refine load_one rfl _ _ rfl w.heap.size 21 rfl (.slice (some ⟨gr, 0, none⟩) n gcap) k3 _ Try.underlying54 rfl ?_) | (refine load_mid rfl 76 _ rfl gr (c * 3) rfl #[.int .i64 (bw : Int), .int .i64 (bh : Int), .slice (some ⟨g, 0, none⟩) L.length gc] (unhide QM) _ Try.underlying76 rfl (by kernel_rfl) ?_) | (refine store_row rfl 76 _ _ rfl W4.heap.size rfl #[.int .i64 (bw : Int), .int .i64 (bh : Int), .slice (some ⟨g, 0, none⟩) L.length gc] rfl _ 76 (unhide HB7) rfl (by kernel_rfl) (by simp [Value.oneCell']) ?_; intro w5 hB5 g5))
  have g05 : W4.grownBy w5 none := grown_new (World.grownBy_alloc W4 (.cells #[.int .i64 0, .int .i64 0, .slice none 0 0] 76) none) g5 (fun q e => by simp at e; omega)
  clear g5 HB7 HW4 QM k3 k4
  have s4 := unhide HS4
  have e5 := g05.size
  have d5 : W4.grownBy w5.drew none := grown_drew g05
  have B5 : Hid (w5.drew.heap[W4.heap.size]? = some (.cells #[.int .i64 (bw : Int), .int .i64 (bh : Int), .slice (some ⟨g, 0, none⟩) L.length gc] 76 (0, 0))) := hB5
  have l5 : W4.heap.size < w5.drew.heap.size := (Array.getElem?_eq_some_iff.1 hB5).1
  have c5 : Hid (w5.drew.cell? ⟨w.heap.size + 1 + 1, 0, none⟩ = some (.slice po P.length pc)) := by unfold Hid; rw [cell_of_row _ _ 0 _ _ (0, 0) (grown_atT d5 (unhide P5) (by simp))]; rfl
  have c70 : Hid (w5.drew.cell? ⟨W4.heap.size, 0, none⟩ = some (.int .i64 (bw : Int))) := by unfold Hid; rw [cell_of_row _ _ 0 _ _ (0, 0) (unhide B5)]; rfl
  have c71 : Hid (w5.drew.cell? ⟨W4.heap.size, 0 + 1, none⟩ = some (.int .i64 (bh : Int))) := by unfold Hid; rw [cell_of_row _ _ 1 _ _ (0, 0) (unhide B5)]; rfl
  clear s4
  refine wp_region_noPanic ?_
  refine wp_region_tailL 20 (fun W => w5.drew.grownBy W none) [true, true, true, true, false, false] (by kernel_rfl) (fun _ _ _ _ _ h => h) rfl (by decide) (by kernel_rfl) (World.grownBy.refl _ _) ?_
  generalize w5.drew = w6 at *
  clear hB5 g05 e5
  refine heldF_take (v := ?_) (Or.inl ⟨by rfl, ?_⟩) ?_
  rotate_left 1
  · intro w' hSw
    have cc := hSw.cell (unhide c5) (by simp)
    go_simp
    try with_reducible rfl
  simp only [Act.put, List.setIfInBounds_toArray, List.set_cons_zero, List.set_cons_succ]
  iterate 2
    refine heldF_take (v := ?_) (Or.inl ⟨by rfl, ?_⟩) ?_
    rotate_left 1
    · intro w' hSw
      go_simp
      try with_reducible rfl
    simp only [Act.put, List.setIfInBounds_toArray, List.set_cons_zero, List.set_cons_succ]
  refine heldF_take (v := .agg #[.int .i64 (bw : Int), .int .i64 (bh : Int)]) (Or.inl ⟨by rfl, ?_⟩) ?_
  · intro w' hSw
    exact exec_mid 73 _ rfl W4.heap.size 0 rfl _ (area_mid (hSw.cell (unhide c70) (by simp)) (hSw.cell (unhide c71) (by simp))) _ Try.underlying73 rfl (by kernel_rfl)
  simp only [Act.put, List.setIfInBounds_toArray, List.set_cons_zero, List.set_cons_succ]
  refine heldF_skip (heldF_skip (heldF_nil ?_))
  refine tailL_skip (tailL_skip (tailL_skip (tailL_skip ?_)))
  refine tailL_step (fun K hK => ?_)
  go_simp
  refine (areaCount (bw : Int) (bh : Int) (by omega) (by omega) w6).mono ?_
  rintro e w7 ⟨rfl, g7⟩
  refine hK.out _ _ (.inr g7) ?_
  clear hK K
  try simp only [Act.put, List.setIfInBounds_toArray, List.set_cons_zero, List.set_cons_succ]
  have d7 := grown_trans d5 g7
  have e7 := g7.size
  have cr : w7.cell? ⟨w.heap.size + 1 + 1 + 1, 0, none⟩ = some (.bool false) := by rw [cell_of_row _ _ 0 _ _ (0, 0) (grown_atT d7 (unhide P6) (by simp))]; rfl
  have fr := frozen_of_row w7 (w.heap.size + 1 + 1 + 1) 0 _ _ (grown_atT d7 (unhide P6) (by simp))
  have k70 := g7.cell (unhide c70) (by simp)
  have k71 := g7.cell (unhide c71) (by simp)
  simp only [Nat.zero_add] at k71
  refine tailL_step (fun K hK => ?_)
  by_cases hPL : P.length = bw * bh
  · have hpl : ((P.length : Int) != (bw : Int) * (bh : Int)) = false := by simp [hPL]
    have HPL := hide hPL
    clear hPL
    go_simp
    refine hK.out _ _ (.inl rfl) (tailL_nil (NoPanic.normal ?_))
    clear hK K hpl cr fr
    have T7 := hide ((unhide T4).grown d7)
    have B7 := hide (grown_atT g7 (unhide B5) (by simp))
    clear T4 B5 c5 c70 c71
    go_wp2_with fail
    refine (callsIn_wide.1 (spots_in Fence.wide 0 trivial rfl _ _ _)).mono ?_
    rintro e w' ⟨rfl, rfl⟩
    obtain ⟨w8, hw8⟩ : ∃ w8, w7.alloc (.cells #[.int .i64 (bw : Int), .int .i64 (bh : Int)] 73) = w8 := ⟨_, rfl⟩
    have g8 : w7.grownBy w8 none := by rw [← hw8]; exact World.grownBy_alloc _ _ _
    have s8 : w8.heap.size = w7.heap.size + 1 := by rw [← hw8]; simp
    have ba8 : w8.heap[w7.heap.size]? = some (.cells #[.int .i64 (bw : Int), .int .i64 (bh : Int)] 73 (0, 0)) := by rw [← hw8]; exact heap_alloc_new _ _
    rw [hw8]
    have d8 := grown_trans d7 g8
    have T8 := hide ((unhide T7).grown g8)
    have B8 := hide (grown_atT g8 (unhide B7) (by simp))
    have R8 := hide (grown_atT d8 (unhide P6) (by simp))
    have P38 := hide (grown_atT d8 (unhide P3) (by simp))
    have P48 := hide (grown_atT d8 (unhide P4) (by simp))
    have P58 := hide (grown_atT d8 (unhide P5) (by simp))
    have BA8 := hide ba8
    have D8 := hide d8
    clear hw8 g8 T7 B7 k70 k71 d7 d5 g7 ba8 d8
    go_wp2
    refine (wpIn_wide (n := 0)).1 ?_
    refine rangeFunc_stops (gf := 44) (lb := #[.pointer (some ⟨w7.heap.size, 0, none⟩)]) (O := fun k => k = g ∨ k = w.heap.size + 1 + 1 + 1) rfl (enters_of Try.func44 (by kernel_rfl) rfl) (fun k hk => by have s4 := unhide HS4; omega)
      (spots_stops w7.heap.size bw bh (by omega) (by omega) _ w8 (unhide BA8) (fun e => by have s4 := unhide HS4; omega)) (fun _ => rfl)
      (fun pre W => Th_gridrows W g (mixL P L pre.length) ∧ (∀ k, k < pre.length → blockB (hidB bw (nwG wd n C c) (nhG ht n C c) k) (P.getD k []) = true) ∧ W.heap[w.heap.size + 1 + 1 + 1]? = some (.cells #[.bool false] 4 (0, 0)))
      (fun pre W W' h hk => ⟨h.1.same (hk g (.inl rfl)), h.2.1, (hk _ (.inr rfl)).trans h.2.2⟩)
      (fun W => t = false ∧ W.heap[w.heap.size + 1 + 1 + 1]? = some (.cells #[.bool false] 4 (0, 0)))
      (fun W W' h hk => ⟨h.1, (hk _ (.inr rfl)).trans h.2⟩)
      ⟨by rw [List.length_nil, mixL_zero]; exact unhide T8, fun k hk => by simp at hk, unhide R8⟩ ?a1 ?assign ?body ?done ?stop
    case assign =>
      intro l' mm x Wa K hK
      gi_wp2
      exact hK
    case body =>
      intro l' mm pre x Wa hI hb hlen
      obtain ⟨hk1, hk2, hk3⟩ := spot_num hlen
      have hkl := spot_less hlen
      obtain ⟨r, cc⟩ := x
      dsimp only at hk1 hk2 hk3 ⊢
      obtain ⟨hTa, hok, hRa⟩ := hI
      have s4 := unhide HS4
      have hkP : pre.length < P.length := by have := unhide HPL; rw [this, Nat.mul_comm]; exact hkl
      have BW8 : B.grownBy w8 none := grown_trans (unhide HBg) (grown_trans (unhide HG4) (unhide D8))
      have BWa : B.grownBy Wa none := ⟨hb.os.trans BW8.os, hb.tape.trans BW8.tape, hb.output.trans BW8.output, Nat.le_trans BW8.size hb.size, fun q hq _ => (hb.block q (by have := BW8.size; omega) (fun e => by omega)).trans (BW8.block q hq (by simp))⟩
      obtain ⟨pb, poff, u, rfl, cu, uo, uc, rfl, ru⟩ := unhide HPR pre.length hkP
      obtain ⟨zs, HZS⟩ : ∃ zs, Hid (P.getD pre.length [] = zs) := ⟨_, rfl⟩
      have ezs : P[pre.length] = zs := by rw [← unhide HZS]; simp [hkP]
      rw [ezs] at cu ru
      obtain ⟨un, HUN⟩ : ∃ un, Hid (zs.length = un) := ⟨_, rfl⟩
      rw [unhide HUN] at cu ru
      clear ezs
      have CU := hide (BWa.cell cu (by simp))
      have RU := hide (ru.grown BWa)
      have X3 := hide ((hb.block w.heap.size (by omega) (fun e => by omega)).trans (unhide P38))
      have X4 := hide ((hb.block (w.heap.size + 1) (by omega) (fun e => by omega)).trans (unhide P48))
      have X5 := hide ((hb.block (w.heap.size + 1 + 1) (by omega) (fun e => by omega)).trans (unhide P58))
      have X7 := hide ((hb.block W4.heap.size (by omega) (fun e => by omega)).trans (unhide B8))
      obtain ⟨okb, HOK⟩ : ∃ okb, Hid (levB (-16383) 16383 zs = okb) := ⟨_, rfl⟩
      have j0 : (0 : Int) ≤ (pre.length : Int) := by omega
      have j1 : (pre.length : Int) < (P.length : Int) := by omega
      have hsz : w8.heap.size ≤ Wa.heap.size := hb.size
      have HTA := hide hTa
      have HRA := hide hRa
      have HOKS := hide hok
      have HBA := hide hb
      have HLEN := hide hlen
      have HK1 := hide hk1
      have HKP := hide hkP
      have HSZ := hide hsz
      clear hTa hRa hok hb hlen hk1 hkP cu ru BW8 BWa hsz s4 hkl
      gi_wp2
      refine wpIn_mono (Q := fun e a' W' => e = .normal ∧ ∃ b ys, a' = { tmps := #[.agg (plV X (.slice (some ⟨gr, 0, none⟩) n gcap)), .int .i64 (c : Int), .slice (some ⟨pb, poff, none⟩) P.length pc, .pointer (some ⟨w.heap.size, 0, none⟩), .pointer (some ⟨w.heap.size + 1, 0, none⟩), .pointer (some ⟨w.heap.size + 1 + 1, 0, none⟩), .pointer (some ⟨w.heap.size + 1 + 1 + 1, 0, none⟩), .pointer (some ⟨W4.heap.size, 0, none⟩), .int .i64 (r : Int), .int .i64 (cc : Int), .pointer (some ⟨b, 0, none⟩), .bool okb, .pointer (some ⟨w.heap.size, 21, none⟩), .slice (some ⟨gr, 0, none⟩) n gcap, .int .i64 (c : Int), .pointer (some ⟨gr, c * 3, none⟩), .agg #[.int .i64 (bw : Int), .int .i64 (bh : Int), .slice (some ⟨g, 0, none⟩) L.length gc], .slice (some ⟨pb, poff, none⟩) P.length pc, .int .i64 (P.length : Int), .pointer (some ⟨W4.heap.size, 0, none⟩), .agg #[.int .i64 (bw : Int), .int .i64 (bh : Int)], .int .i64 ((bw : Int) * (bh : Int)), .bool false, .pointer (some ⟨W4.heap.size, 0, none⟩), .agg #[.int .i64 (bw : Int), .int .i64 (bh : Int)], .func (.func 44) #[] #[.pointer (some ⟨w7.heap.size, 0, none⟩)], .int .i64 (r : Int), .int .i64 (cc : Int), .tuple #[.agg (sq ys), .bool okb], .slice (some ⟨pb, poff, none⟩) P.length pc, .agg #[.int .i64 (bw : Int), .int .i64 (bh : Int), .slice (some ⟨g, 0, none⟩) L.length gc], .int .i64 (r : Int), .int .i64 (cc : Int), .int .i64 (pre.length : Int), .pointer (some ⟨pb, poff + pre.length, none⟩), .slice uo un uc, .tuple #[.agg (sq ys), .bool okb], .agg (sq ys), .bool okb, undef, undef, undef, undef, undef, undef, undef, undef, undef, undef, undef, undef, undef, undef, undef, undef, undef, undef, undef, undef, undef], defers := [] } ∧ ys.length = 64 ∧ (un = 64 → ys = zs) ∧ W'.heap[b]? = some (.cells (sq ys) 62 (0, 0)) ∧ Wa.heap.size ≤ b ∧ Wa.grownBy W' none) ?region ?rest
      case region =>
        refine wpIn_raw (fun W => Wa.drew.grownBy W none) [true, true, true, true, false, false, false, false, false, false, false, false, false, false] (by kernel_rfl) (fun a' W' h => by cases h.1) (fun c' a' d' v' W' h => by cases h.1) rfl (by rfl) (by kernel_rfl) (World.grownBy.refl _ _) ?_
        have gd : Wa.grownBy Wa.drew none := grown_drew (World.grownBy.refl _ _)
        have x5 : Hid (Wa.drew.cell? ⟨w.heap.size + 1 + 1, 0, none⟩ = some (.slice (some ⟨pb, poff, none⟩) P.length pc)) := by unfold Hid; rw [cell_of_row _ _ 0 _ _ (0, 0) (grown_atT gd (unhide X5) (by simp))]; rfl
        have x7 := hide (grown_atT gd (unhide X7) (by simp))
        have cu := hide (gd.cell (unhide CU) (by simp))
        have ru := hide ((unhide RU).grown gd)
        have HSD : Hid (Wa.drew.heap.size = Wa.heap.size) := rfl
        generalize Wa.drew = Wd at *
        refine heldF_take (v := ?_) (Or.inl ⟨by rfl, ?_⟩) ?_
        rotate_left 1
        · intro w' hSw
          have c5 := hSw.cell (unhide x5) (by simp)
          go_simp
          try with_reducible rfl
        simp only [Act.put, List.setIfInBounds_toArray, List.set_cons_zero, List.set_cons_succ]
        refine heldF_take (v := .agg #[.int .i64 (bw : Int), .int .i64 (bh : Int), .slice (some ⟨g, 0, none⟩) L.length gc]) (Or.inl ⟨by rfl, ?_⟩) ?_
        · intro w' hSw
          exact exec_row 76 _ rfl W4.heap.size rfl _ _ (grown_atT hSw (unhide x7) (by simp)) _ Try.underlying76 rfl (by kernel_rfl)
        simp only [Act.put, List.setIfInBounds_toArray, List.set_cons_zero, List.set_cons_succ]
        refine heldF_take (v := ?_) (Or.inl ⟨by rfl, ?_⟩) ?_
        rotate_left 1
        · intro w' hSw
          go_simp
          try with_reducible rfl
        simp only [Act.put, List.setIfInBounds_toArray, List.set_cons_zero, List.set_cons_succ]
        refine heldF_take (v := ?_) (Or.inl ⟨by rfl, ?_⟩) ?_
        rotate_left 1
        · intro w' hSw
          go_simp
          try with_reducible rfl
        simp only [Act.put, List.setIfInBounds_toArray, List.set_cons_zero, List.set_cons_succ]
        refine heldF_skip (heldF_skip (heldF_skip (heldF_skip (heldF_skip (heldF_skip (heldF_skip (heldF_skip (heldF_skip (heldF_skip (heldF_nil ?_))))))))))
        refine anyH_step2 (i := 4) (j := 11) rfl rfl (by kernel_rfl) (fun K hK => ?_) (fun K hK => ?_)
        · skip
          go_simp
          refine (gridIndex bw r cc _ _ (by omega) (by omega) (by omega) pre.length HK1 Wd).mono ?_
          rintro e w1 ⟨rfl, gi⟩
          have gw1 := gi
          clear gi
          refine hK.out _ _ gw1 ?_
          clear hK K
          try simp only [Act.put, List.setIfInBounds_toArray, List.set_cons_zero, List.set_cons_succ]
          refine anyH_take (i := 5) (v := ?_) rfl (by kernel_rfl) (fun _ _ _ h => by cases h.1) (Or.inl ⟨by rfl, ?_⟩) gw1 ?_
          rotate_left 1
          · intro w' hSw
            go_simp
            try with_reducible rfl
          try simp only [Act.put, List.setIfInBounds_toArray, List.set_cons_zero, List.set_cons_succ]
          refine anyH_take (i := 6) (v := ?_) rfl (by kernel_rfl) (fun _ _ _ h => by cases h.1) (Or.inl ⟨by rfl, ?_⟩) gw1 ?_
          rotate_left 1
          · intro w' hSw
            have c6 := hSw.cell (unhide cu) (by simp)
            go_simp
            try with_reducible rfl
          try simp only [Act.put, List.setIfInBounds_toArray, List.set_cons_zero, List.set_cons_succ]
          refine anyH_step2 (i := 7) (j := 11) rfl rfl (by kernel_rfl) (fun K hK => ?_) (fun K hK => ?_)
          · skip
            go_simp
            refine (fixLevels uo un uc zs w1 ((unhide ru).grown gw1) okb HOK).mono ?_
            rintro e w2 ⟨⟨ys, rfl, hyl, hyz⟩, gi⟩
            have gw2 := grown_trans gw1 gi
            refine hK.out _ _ gw2 ?_
            clear hK K
            try simp only [Act.put, List.setIfInBounds_toArray, List.set_cons_zero, List.set_cons_succ]
            refine anyH_take (i := 8) (v := ?_) rfl (by kernel_rfl) (fun _ _ _ h => by cases h.1) (Or.inl ⟨by rfl, ?_⟩) gw2 ?_
            rotate_left 1
            · intro w' hSw
              go_simp
              try with_reducible rfl
            try simp only [Act.put, List.setIfInBounds_toArray, List.set_cons_zero, List.set_cons_succ]
            refine anyH_take (i := 9) (v := ?_) rfl (by kernel_rfl) (fun _ _ _ h => by cases h.1) (Or.inl ⟨by rfl, ?_⟩) gw2 ?_
            rotate_left 1
            · intro w' hSw
              go_simp
              try with_reducible rfl
            try simp only [Act.put, List.setIfInBounds_toArray, List.set_cons_zero, List.set_cons_succ]
            refine anyH_take (i := 10) (v := ?_) rfl (by kernel_rfl) (fun _ _ _ h => by cases h.1) (Or.inl ⟨by rfl, ?_⟩) gw2 ?_
            rotate_left 1
            · intro w' hSw
              go_simp
              try with_reducible rfl
            try simp only [Act.put, List.setIfInBounds_toArray, List.set_cons_zero, List.set_cons_succ]
            refine anyH_step1 (i := 11) rfl (by kernel_rfl) (fun K hK => ?_)
            go_simp
            have baw3 := heap_alloc_new w2 (.cells #[.int .i64 0, .int .i64 0, .int .i64 0, .int .i64 0, .int .i64 0, .int .i64 0, .int .i64 0, .int .i64 0, .int .i64 0, .int .i64 0, .int .i64 0, .int .i64 0, .int .i64 0, .int .i64 0, .int .i64 0, .int .i64 0, .int .i64 0, .int .i64 0, .int .i64 0, .int .i64 0, .int .i64 0, .int .i64 0, .int .i64 0, .int .i64 0, .int .i64 0, .int .i64 0, .int .i64 0, .int .i64 0, .int .i64 0, .int .i64 0, .int .i64 0, .int .i64 0, .int .i64 0, .int .i64 0, .int .i64 0, .int .i64 0, .int .i64 0, .int .i64 0, .int .i64 0, .int .i64 0, .int .i64 0, .int .i64 0, .int .i64 0, .int .i64 0, .int .i64 0, .int .i64 0, .int .i64 0, .int .i64 0, .int .i64 0, .int .i64 0, .int .i64 0, .int .i64 0, .int .i64 0, .int .i64 0, .int .i64 0, .int .i64 0, .int .i64 0, .int .i64 0, .int .i64 0, .int .i64 0, .int .i64 0, .int .i64 0, .int .i64 0, .int .i64 0] 62)
            have gw3 : Wd.grownBy (w2.alloc (.cells #[.int .i64 0, .int .i64 0, .int .i64 0, .int .i64 0, .int .i64 0, .int .i64 0, .int .i64 0, .int .i64 0, .int .i64 0, .int .i64 0, .int .i64 0, .int .i64 0, .int .i64 0, .int .i64 0, .int .i64 0, .int .i64 0, .int .i64 0, .int .i64 0, .int .i64 0, .int .i64 0, .int .i64 0, .int .i64 0, .int .i64 0, .int .i64 0, .int .i64 0, .int .i64 0, .int .i64 0, .int .i64 0, .int .i64 0, .int .i64 0, .int .i64 0, .int .i64 0, .int .i64 0, .int .i64 0, .int .i64 0, .int .i64 0, .int .i64 0, .int .i64 0, .int .i64 0, .int .i64 0, .int .i64 0, .int .i64 0, .int .i64 0, .int .i64 0, .int .i64 0, .int .i64 0, .int .i64 0, .int .i64 0, .int .i64 0, .int .i64 0, .int .i64 0, .int .i64 0, .int .i64 0, .int .i64 0, .int .i64 0, .int .i64 0, .int .i64 0, .int .i64 0, .int .i64 0, .int .i64 0, .int .i64 0, .int .i64 0, .int .i64 0, .int .i64 0] 62)) none := grown_alloc gw2 _
            obtain ⟨b, hbe⟩ : ∃ b, w2.heap.size = b := ⟨_, rfl⟩
            have hlo : Wd.heap.size ≤ b := by rw [← hbe]; exact gw2.size
            rw [hbe] at baw3 ⊢
            generalize w2.alloc (.cells #[.int .i64 0, .int .i64 0, .int .i64 0, .int .i64 0, .int .i64 0, .int .i64 0, .int .i64 0, .int .i64 0, .int .i64 0, .int .i64 0, .int .i64 0, .int .i64 0, .int .i64 0, .int .i64 0, .int .i64 0, .int .i64 0, .int .i64 0, .int .i64 0, .int .i64 0, .int .i64 0, .int .i64 0, .int .i64 0, .int .i64 0, .int .i64 0, .int .i64 0, .int .i64 0, .int .i64 0, .int .i64 0, .int .i64 0, .int .i64 0, .int .i64 0, .int .i64 0, .int .i64 0, .int .i64 0, .int .i64 0, .int .i64 0, .int .i64 0, .int .i64 0, .int .i64 0, .int .i64 0, .int .i64 0, .int .i64 0, .int .i64 0, .int .i64 0, .int .i64 0, .int .i64 0, .int .i64 0, .int .i64 0, .int .i64 0, .int .i64 0, .int .i64 0, .int .i64 0, .int .i64 0, .int .i64 0, .int .i64 0, .int .i64 0, .int .i64 0, .int .i64 0, .int .i64 0, .int .i64 0, .int .i64 0, .int .i64 0, .int .i64 0, .int .i64 0] 62) = w3 at *
            clear hbe
            refine hK.out _ _ gw3 ?_
            clear hK K
            try simp only [Act.put, List.setIfInBounds_toArray, List.set_cons_zero, List.set_cons_succ]
            refine anyH_step1 (i := 12) rfl (by kernel_rfl) (fun K hK => ?_)
            refine step_store_row (by rfl) 62 _ _ rfl b rfl (sq ys) rfl #[.int .i64 0, .int .i64 0, .int .i64 0, .int .i64 0, .int .i64 0, .int .i64 0, .int .i64 0, .int .i64 0, .int .i64 0, .int .i64 0, .int .i64 0, .int .i64 0, .int .i64 0, .int .i64 0, .int .i64 0, .int .i64 0, .int .i64 0, .int .i64 0, .int .i64 0, .int .i64 0, .int .i64 0, .int .i64 0, .int .i64 0, .int .i64 0, .int .i64 0, .int .i64 0, .int .i64 0, .int .i64 0, .int .i64 0, .int .i64 0, .int .i64 0, .int .i64 0, .int .i64 0, .int .i64 0, .int .i64 0, .int .i64 0, .int .i64 0, .int .i64 0, .int .i64 0, .int .i64 0, .int .i64 0, .int .i64 0, .int .i64 0, .int .i64 0, .int .i64 0, .int .i64 0, .int .i64 0, .int .i64 0, .int .i64 0, .int .i64 0, .int .i64 0, .int .i64 0, .int .i64 0, .int .i64 0, .int .i64 0, .int .i64 0, .int .i64 0, .int .i64 0, .int .i64 0, .int .i64 0, .int .i64 0, .int .i64 0, .int .i64 0, .int .i64 0] 62 baw3 (by rw [sq_size, hyl]; rfl) (by rw [sq_size, hyl]; kernel_rfl) (sq_one _) ?_
            intro w9 hB9 g9
            have gw9 : Wd.grownBy w9 none := grown_new gw3 g9 (fun q e => by simp at e; omega)
            refine hK.out _ _ gw9 ?_
            clear hK K
            simp only [Act.put]
            refine anyH_step1 (i := 13) rfl (by kernel_rfl) (fun K hK => ?_)
            go_simp
            refine hK.out _ _ gw9 ?_
            clear hK K
            try simp only [Act.put, List.setIfInBounds_toArray, List.set_cons_zero, List.set_cons_succ]
            refine wpAnyH_done (by kernel_rfl) ?_ _
            exact ⟨rfl, b, ys, rfl, hyl, hyz, hB9, by have := unhide HSD; omega, grown_trans gd gw9⟩
          · skip
            go_simp
            have baw2 := heap_alloc_new w1 (.cells #[.int .i64 0, .int .i64 0, .int .i64 0, .int .i64 0, .int .i64 0, .int .i64 0, .int .i64 0, .int .i64 0, .int .i64 0, .int .i64 0, .int .i64 0, .int .i64 0, .int .i64 0, .int .i64 0, .int .i64 0, .int .i64 0, .int .i64 0, .int .i64 0, .int .i64 0, .int .i64 0, .int .i64 0, .int .i64 0, .int .i64 0, .int .i64 0, .int .i64 0, .int .i64 0, .int .i64 0, .int .i64 0, .int .i64 0, .int .i64 0, .int .i64 0, .int .i64 0, .int .i64 0, .int .i64 0, .int .i64 0, .int .i64 0, .int .i64 0, .int .i64 0, .int .i64 0, .int .i64 0, .int .i64 0, .int .i64 0, .int .i64 0, .int .i64 0, .int .i64 0, .int .i64 0, .int .i64 0, .int .i64 0, .int .i64 0, .int .i64 0, .int .i64 0, .int .i64 0, .int .i64 0, .int .i64 0, .int .i64 0, .int .i64 0, .int .i64 0, .int .i64 0, .int .i64 0, .int .i64 0, .int .i64 0, .int .i64 0, .int .i64 0, .int .i64 0] 62)
            have gw2 : Wd.grownBy (w1.alloc (.cells #[.int .i64 0, .int .i64 0, .int .i64 0, .int .i64 0, .int .i64 0, .int .i64 0, .int .i64 0, .int .i64 0, .int .i64 0, .int .i64 0, .int .i64 0, .int .i64 0, .int .i64 0, .int .i64 0, .int .i64 0, .int .i64 0, .int .i64 0, .int .i64 0, .int .i64 0, .int .i64 0, .int .i64 0, .int .i64 0, .int .i64 0, .int .i64 0, .int .i64 0, .int .i64 0, .int .i64 0, .int .i64 0, .int .i64 0, .int .i64 0, .int .i64 0, .int .i64 0, .int .i64 0, .int .i64 0, .int .i64 0, .int .i64 0, .int .i64 0, .int .i64 0, .int .i64 0, .int .i64 0, .int .i64 0, .int .i64 0, .int .i64 0, .int .i64 0, .int .i64 0, .int .i64 0, .int .i64 0, .int .i64 0, .int .i64 0, .int .i64 0, .int .i64 0, .int .i64 0, .int .i64 0, .int .i64 0, .int .i64 0, .int .i64 0, .int .i64 0, .int .i64 0, .int .i64 0, .int .i64 0, .int .i64 0, .int .i64 0, .int .i64 0, .int .i64 0] 62)) none := grown_alloc gw1 _
            obtain ⟨b, hbe⟩ : ∃ b, w1.heap.size = b := ⟨_, rfl⟩
            have hlo : Wd.heap.size ≤ b := by rw [← hbe]; exact gw1.size
            rw [hbe] at baw2 ⊢
            generalize w1.alloc (.cells #[.int .i64 0, .int .i64 0, .int .i64 0, .int .i64 0, .int .i64 0, .int .i64 0, .int .i64 0, .int .i64 0, .int .i64 0, .int .i64 0, .int .i64 0, .int .i64 0, .int .i64 0, .int .i64 0, .int .i64 0, .int .i64 0, .int .i64 0, .int .i64 0, .int .i64 0, .int .i64 0, .int .i64 0, .int .i64 0, .int .i64 0, .int .i64 0, .int .i64 0, .int .i64 0, .int .i64 0, .int .i64 0, .int .i64 0, .int .i64 0, .int .i64 0, .int .i64 0, .int .i64 0, .int .i64 0, .int .i64 0, .int .i64 0, .int .i64 0, .int .i64 0, .int .i64 0, .int .i64 0, .int .i64 0, .int .i64 0, .int .i64 0, .int .i64 0, .int .i64 0, .int .i64 0, .int .i64 0, .int .i64 0, .int .i64 0, .int .i64 0, .int .i64 0, .int .i64 0, .int .i64 0, .int .i64 0, .int .i64 0, .int .i64 0, .int .i64 0, .int .i64 0, .int .i64 0, .int .i64 0, .int .i64 0, .int .i64 0, .int .i64 0, .int .i64 0] 62) = w2 at *
            clear hbe
            refine hK.out _ _ gw2 ?_
            clear hK K
            try simp only [Act.put, List.setIfInBounds_toArray, List.set_cons_zero, List.set_cons_succ]
            refine anyH_step1 (i := 7) rfl (by kernel_rfl) (fun K hK => ?_)
            go_simp
            refine (fixLevels uo un uc zs w2 ((unhide ru).grown gw2) okb HOK).mono ?_
            rintro e w3 ⟨⟨ys, rfl, hyl, hyz⟩, gi⟩
            have gw3 := grown_trans gw2 gi
            refine hK.out _ _ gw3 ?_
            clear hK K
            try simp only [Act.put, List.setIfInBounds_toArray, List.set_cons_zero, List.set_cons_succ]
            refine anyH_take (i := 8) (v := ?_) rfl (by kernel_rfl) (fun _ _ _ h => by cases h.1) (Or.inl ⟨by rfl, ?_⟩) gw3 ?_
            rotate_left 1
            · intro w' hSw
              go_simp
              try with_reducible rfl
            try simp only [Act.put, List.setIfInBounds_toArray, List.set_cons_zero, List.set_cons_succ]
            refine anyH_take (i := 9) (v := ?_) rfl (by kernel_rfl) (fun _ _ _ h => by cases h.1) (Or.inl ⟨by rfl, ?_⟩) gw3 ?_
            rotate_left 1
            · intro w' hSw
              go_simp
              try with_reducible rfl
            try simp only [Act.put, List.setIfInBounds_toArray, List.set_cons_zero, List.set_cons_succ]
            refine anyH_take (i := 10) (v := ?_) rfl (by kernel_rfl) (fun _ _ _ h => by cases h.1) (Or.inl ⟨by rfl, ?_⟩) gw3 ?_
            rotate_left 1
            · intro w' hSw
              go_simp
              try with_reducible rfl
            try simp only [Act.put, List.setIfInBounds_toArray, List.set_cons_zero, List.set_cons_succ]
            have baw3 := grown_atT gi baw2 (by simp)
            refine anyH_step1 (i := 12) rfl (by kernel_rfl) (fun K hK => ?_)
            refine step_store_row (by rfl) 62 _ _ rfl b rfl (sq ys) rfl #[.int .i64 0, .int .i64 0, .int .i64 0, .int .i64 0, .int .i64 0, .int .i64 0, .int .i64 0, .int .i64 0, .int .i64 0, .int .i64 0, .int .i64 0, .int .i64 0, .int .i64 0, .int .i64 0, .int .i64 0, .int .i64 0, .int .i64 0, .int .i64 0, .int .i64 0, .int .i64 0, .int .i64 0, .int .i64 0, .int .i64 0, .int .i64 0, .int .i64 0, .int .i64 0, .int .i64 0, .int .i64 0, .int .i64 0, .int .i64 0, .int .i64 0, .int .i64 0, .int .i64 0, .int .i64 0, .int .i64 0, .int .i64 0, .int .i64 0, .int .i64 0, .int .i64 0, .int .i64 0, .int .i64 0, .int .i64 0, .int .i64 0, .int .i64 0, .int .i64 0, .int .i64 0, .int .i64 0, .int .i64 0, .int .i64 0, .int .i64 0, .int .i64 0, .int .i64 0, .int .i64 0, .int .i64 0, .int .i64 0, .int .i64 0, .int .i64 0, .int .i64 0, .int .i64 0, .int .i64 0, .int .i64 0, .int .i64 0, .int .i64 0, .int .i64 0] 62 baw3 (by rw [sq_size, hyl]; rfl) (by rw [sq_size, hyl]; kernel_rfl) (sq_one _) ?_
            intro w9 hB9 g9
            have gw9 : Wd.grownBy w9 none := grown_new gw3 g9 (fun q e => by simp at e; omega)
            refine hK.out _ _ gw9 ?_
            clear hK K
            simp only [Act.put]
            refine anyH_step1 (i := 13) rfl (by kernel_rfl) (fun K hK => ?_)
            go_simp
            refine hK.out _ _ gw9 ?_
            clear hK K
            try simp only [Act.put, List.setIfInBounds_toArray, List.set_cons_zero, List.set_cons_succ]
            refine wpAnyH_done (by kernel_rfl) ?_ _
            exact ⟨rfl, b, ys, rfl, hyl, hyz, hB9, by have := unhide HSD; omega, grown_trans gd gw9⟩
        · skip
          go_simp
          have baw1 := heap_alloc_new Wd (.cells #[.int .i64 0, .int .i64 0, .int .i64 0, .int .i64 0, .int .i64 0, .int .i64 0, .int .i64 0, .int .i64 0, .int .i64 0, .int .i64 0, .int .i64 0, .int .i64 0, .int .i64 0, .int .i64 0, .int .i64 0, .int .i64 0, .int .i64 0, .int .i64 0, .int .i64 0, .int .i64 0, .int .i64 0, .int .i64 0, .int .i64 0, .int .i64 0, .int .i64 0, .int .i64 0, .int .i64 0, .int .i64 0, .int .i64 0, .int .i64 0, .int .i64 0, .int .i64 0, .int .i64 0, .int .i64 0, .int .i64 0, .int .i64 0, .int .i64 0, .int .i64 0, .int .i64 0, .int .i64 0, .int .i64 0, .int .i64 0, .int .i64 0, .int .i64 0, .int .i64 0, .int .i64 0, .int .i64 0, .int .i64 0, .int .i64 0, .int .i64 0, .int .i64 0, .int .i64 0, .int .i64 0, .int .i64 0, .int .i64 0, .int .i64 0, .int .i64 0, .int .i64 0, .int .i64 0, .int .i64 0, .int .i64 0, .int .i64 0, .int .i64 0, .int .i64 0] 62)
          have gw1 : Wd.grownBy (Wd.alloc (.cells #[.int .i64 0, .int .i64 0, .int .i64 0, .int .i64 0, .int .i64 0, .int .i64 0, .int .i64 0, .int .i64 0, .int .i64 0, .int .i64 0, .int .i64 0, .int .i64 0, .int .i64 0, .int .i64 0, .int .i64 0, .int .i64 0, .int .i64 0, .int .i64 0, .int .i64 0, .int .i64 0, .int .i64 0, .int .i64 0, .int .i64 0, .int .i64 0, .int .i64 0, .int .i64 0, .int .i64 0, .int .i64 0, .int .i64 0, .int .i64 0, .int .i64 0, .int .i64 0, .int .i64 0, .int .i64 0, .int .i64 0, .int .i64 0, .int .i64 0, .int .i64 0, .int .i64 0, .int .i64 0, .int .i64 0, .int .i64 0, .int .i64 0, .int .i64 0, .int .i64 0, .int .i64 0, .int .i64 0, .int .i64 0, .int .i64 0, .int .i64 0, .int .i64 0, .int .i64 0, .int .i64 0, .int .i64 0, .int .i64 0, .int .i64 0, .int .i64 0, .int .i64 0, .int .i64 0, .int .i64 0, .int .i64 0, .int .i64 0, .int .i64 0, .int .i64 0] 62)) none := grown_alloc (World.grownBy.refl Wd none) _
          obtain ⟨b, hbe⟩ : ∃ b, Wd.heap.size = b := ⟨_, rfl⟩
          have hlo : Wd.heap.size ≤ b := by rw [← hbe]; exact (World.grownBy.refl Wd none).size
          rw [hbe] at baw1 ⊢
          generalize Wd.alloc (.cells #[.int .i64 0, .int .i64 0, .int .i64 0, .int .i64 0, .int .i64 0, .int .i64 0, .int .i64 0, .int .i64 0, .int .i64 0, .int .i64 0, .int .i64 0, .int .i64 0, .int .i64 0, .int .i64 0, .int .i64 0, .int .i64 0, .int .i64 0, .int .i64 0, .int .i64 0, .int .i64 0, .int .i64 0, .int .i64 0, .int .i64 0, .int .i64 0, .int .i64 0, .int .i64 0, .int .i64 0, .int .i64 0, .int .i64 0, .int .i64 0, .int .i64 0, .int .i64 0, .int .i64 0, .int .i64 0, .int .i64 0, .int .i64 0, .int .i64 0, .int .i64 0, .int .i64 0, .int .i64 0, .int .i64 0, .int .i64 0, .int .i64 0, .int .i64 0, .int .i64 0, .int .i64 0, .int .i64 0, .int .i64 0, .int .i64 0, .int .i64 0, .int .i64 0, .int .i64 0, .int .i64 0, .int .i64 0, .int .i64 0, .int .i64 0, .int .i64 0, .int .i64 0, .int .i64 0, .int .i64 0, .int .i64 0, .int .i64 0, .int .i64 0, .int .i64 0] 62) = w1 at *
          clear hbe
          refine hK.out _ _ gw1 ?_
          clear hK K
          try simp only [Act.put, List.setIfInBounds_toArray, List.set_cons_zero, List.set_cons_succ]
          refine anyH_step1 (i := 4) rfl (by kernel_rfl) (fun K hK => ?_)
          go_simp
          refine (gridIndex bw r cc _ _ (by omega) (by omega) (by omega) pre.length HK1 w1).mono ?_
          rintro e w2 ⟨rfl, gi⟩
          have gw2 := grown_trans gw1 gi
          have baw2 := grown_atT gi baw1 (by simp)
          clear gi
          refine hK.out _ _ gw2 ?_
          clear hK K
          try simp only [Act.put, List.setIfInBounds_toArray, List.set_cons_zero, List.set_cons_succ]
          refine anyH_take (i := 5) (v := ?_) rfl (by kernel_rfl) (fun _ _ _ h => by cases h.1) (Or.inl ⟨by rfl, ?_⟩) gw2 ?_
          rotate_left 1
          · intro w' hSw
            go_simp
            try with_reducible rfl
          try simp only [Act.put, List.setIfInBounds_toArray, List.set_cons_zero, List.set_cons_succ]
          refine anyH_take (i := 6) (v := ?_) rfl (by kernel_rfl) (fun _ _ _ h => by cases h.1) (Or.inl ⟨by rfl, ?_⟩) gw2 ?_
          rotate_left 1
          · intro w' hSw
            have c6 := hSw.cell (unhide cu) (by simp)
            go_simp
            try with_reducible rfl
          try simp only [Act.put, List.setIfInBounds_toArray, List.set_cons_zero, List.set_cons_succ]
          refine anyH_step1 (i := 7) rfl (by kernel_rfl) (fun K hK => ?_)
          go_simp
          refine (fixLevels uo un uc zs w2 ((unhide ru).grown gw2) okb HOK).mono ?_
          rintro e w3 ⟨⟨ys, rfl, hyl, hyz⟩, gi⟩
          have gw3 := grown_trans gw2 gi
          refine hK.out _ _ gw3 ?_
          clear hK K
          try simp only [Act.put, List.setIfInBounds_toArray, List.set_cons_zero, List.set_cons_succ]
          refine anyH_take (i := 8) (v := ?_) rfl (by kernel_rfl) (fun _ _ _ h => by cases h.1) (Or.inl ⟨by rfl, ?_⟩) gw3 ?_
          rotate_left 1
          · intro w' hSw
            go_simp
            try with_reducible rfl
          try simp only [Act.put, List.setIfInBounds_toArray, List.set_cons_zero, List.set_cons_succ]
          refine anyH_take (i := 9) (v := ?_) rfl (by kernel_rfl) (fun _ _ _ h => by cases h.1) (Or.inl ⟨by rfl, ?_⟩) gw3 ?_
          rotate_left 1
          · intro w' hSw
            go_simp
            try with_reducible rfl
          try simp only [Act.put, List.setIfInBounds_toArray, List.set_cons_zero, List.set_cons_succ]
          refine anyH_take (i := 10) (v := ?_) rfl (by kernel_rfl) (fun _ _ _ h => by cases h.1) (Or.inl ⟨by rfl, ?_⟩) gw3 ?_
          rotate_left 1
          · intro w' hSw
            go_simp
            try with_reducible rfl
          try simp only [Act.put, List.setIfInBounds_toArray, List.set_cons_zero, List.set_cons_succ]
          have baw3 := grown_atT gi baw2 (by simp)
          refine anyH_step1 (i := 12) rfl (by kernel_rfl) (fun K hK => ?_)
          refine step_store_row (by rfl) 62 _ _ rfl b rfl (sq ys) rfl #[.int .i64 0, .int .i64 0, .int .i64 0, .int .i64 0, .int .i64 0, .int .i64 0, .int .i64 0, .int .i64 0, .int .i64 0, .int .i64 0, .int .i64 0, .int .i64 0, .int .i64 0, .int .i64 0, .int .i64 0, .int .i64 0, .int .i64 0, .int .i64 0, .int .i64 0, .int .i64 0, .int .i64 0, .int .i64 0, .int .i64 0, .int .i64 0, .int .i64 0, .int .i64 0, .int .i64 0, .int .i64 0, .int .i64 0, .int .i64 0, .int .i64 0, .int .i64 0, .int .i64 0, .int .i64 0, .int .i64 0, .int .i64 0, .int .i64 0, .int .i64 0, .int .i64 0, .int .i64 0, .int .i64 0, .int .i64 0, .int .i64 0, .int .i64 0, .int .i64 0, .int .i64 0, .int .i64 0, .int .i64 0, .int .i64 0, .int .i64 0, .int .i64 0, .int .i64 0, .int .i64 0, .int .i64 0, .int .i64 0, .int .i64 0, .int .i64 0, .int .i64 0, .int .i64 0, .int .i64 0, .int .i64 0, .int .i64 0, .int .i64 0, .int .i64 0] 62 baw3 (by rw [sq_size, hyl]; rfl) (by rw [sq_size, hyl]; kernel_rfl) (sq_one _) ?_
          intro w9 hB9 g9
          have gw9 : Wd.grownBy w9 none := grown_new gw3 g9 (fun q e => by simp at e; omega)
          refine hK.out _ _ gw9 ?_
          clear hK K
          simp only [Act.put]
          refine anyH_step1 (i := 13) rfl (by kernel_rfl) (fun K hK => ?_)
          go_simp
          refine hK.out _ _ gw9 ?_
          clear hK K
          try simp only [Act.put, List.setIfInBounds_toArray, List.set_cons_zero, List.set_cons_succ]
          refine wpAnyH_done (by kernel_rfl) ?_ _
          exact ⟨rfl, b, ys, rfl, hyl, hyz, hB9, by have := unhide HSD; omega, grown_trans gd gw9⟩
      case rest =>
        rintro e a' W' ⟨rfl, b, ys, rfl, hyl, hyz, hbB, hbl, hgr⟩
        have T1 := hide ((unhide HTA).grown hgr)
        have c6 := grown_atT hgr (unhide HRA) (by simp)
        have k6 : W'.cell? ⟨w.heap.size + 1 + 1 + 1, 0, none⟩ = some (.bool false) := by rw [cell_of_row _ _ 0 _ _ (0, 0) c6]; rfl
        have f6 := frozen_of_row W' (w.heap.size + 1 + 1 + 1) 0 _ _ c6
        have k4 : W'.cell? ⟨w.heap.size + 1, 0, none⟩ = some (.int .i64 (c : Int)) := by rw [cell_of_row _ _ 0 _ _ (0, 0) (grown_atT hgr (unhide X4) (by simp))]; rfl
        have Y3 := hide (grown_atT hgr (unhide X3) (by simp))
        have Y7 := hide (grown_atT hgr (unhide X7) (by simp))
        have HBb := hide hbB
        have HGR := hide hgr
        have H6 := hide c6
        have BUT : Hid (∀ W'', W'.grownBy W'' (some g) → But (fun k => k = g ∨ k = w.heap.size + 1 + 1 + 1) Wa W'') := fun W'' g' => (But.of_grown (unhide HGR) (fun q e => by cases e)).trans (But.of_grown g' (fun q e => by cases e; exact .inl rfl))
        have STOP : Hid (t = false → ∀ W'', W'.grownBy W'' none → W''.heap[w.heap.size + 1 + 1 + 1]? = some (.cells #[.bool false] 4 (0, 0)) ∧ (t = false ∧ (W''.setCell ⟨w.heap.size + 1 + 1 + 1, 0, none⟩ (.bool false)).heap[w.heap.size + 1 + 1 + 1]? = some (.cells #[.bool false] 4 (0, 0))) ∧ But (fun k => k = g ∨ k = w.heap.size + 1 + 1 + 1) Wa (W''.setCell ⟨w.heap.size + 1 + 1 + 1, 0, none⟩ (.bool false))) := fun ht W'' g' => by
          have c9 := grown_atT g' (unhide H6) (by simp)
          refine ⟨c9, ⟨ht, ?_⟩, ?_⟩
          · rw [heap_setCell_same W'' _ 0 _ _ _ c9]; rfl
          · exact (But.of_grown (grown_trans (unhide HGR) g') (fun q e => by cases e)).trans (But.of_grown (grown_set W'' (w.heap.size + 1 + 1 + 1) 0 (.bool false)) (fun q e => by cases e; exact .inr rfl))
        clear hbB hgr c6
        have hbad : blockB (hidB bw (nwG wd n C c) (nhG ht n C c) pre.length) (P.getD pre.length []) = false → t = false := fun h => by rw [← unhide HT]; exact plane_bad pre.length (unhide HKP) h
        have HBAD := hide hbad
        clear hbad
        cases okb
        · have htf : t = false := unhide HBAD (by unfold blockB; rw [unhide HZS, unhide HOK]; rfl)
          gi_wp2_with (refine skip_in (by rfl) ?_)
          all_goals exact (unhide STOP htf W' (World.grownBy.refl _ _)).2
        · obtain ⟨hz64, _⟩ := lev_at (unhide HOK)
          obtain rfl : ys = zs := hyz (by rw [← unhide HUN]; exact hz64)
          have HSY : Hid ((sq ys).size = 64) := by unfold Hid; rw [sq_size, hz64]
          obtain ⟨z, HZ⟩ : ∃ z, Hid ((ys == zs64) = z) := ⟨_, rfl⟩
          have hsq : ∀ w, (Op.equalIn 10000 62 (.agg (sq ys)) (.agg #[.int .i64 0, .int .i64 0, .int .i64 0, .int .i64 0, .int .i64 0, .int .i64 0, .int .i64 0, .int .i64 0, .int .i64 0, .int .i64 0, .int .i64 0, .int .i64 0, .int .i64 0, .int .i64 0, .int .i64 0, .int .i64 0, .int .i64 0, .int .i64 0, .int .i64 0, .int .i64 0, .int .i64 0, .int .i64 0, .int .i64 0, .int .i64 0, .int .i64 0, .int .i64 0, .int .i64 0, .int .i64 0, .int .i64 0, .int .i64 0, .int .i64 0, .int .i64 0, .int .i64 0, .int .i64 0, .int .i64 0, .int .i64 0, .int .i64 0, .int .i64 0, .int .i64 0, .int .i64 0, .int .i64 0, .int .i64 0, .int .i64 0, .int .i64 0, .int .i64 0, .int .i64 0, .int .i64 0, .int .i64 0, .int .i64 0, .int .i64 0, .int .i64 0, .int .i64 0, .int .i64 0, .int .i64 0, .int .i64 0, .int .i64 0, .int .i64 0, .int .i64 0, .int .i64 0, .int .i64 0, .int .i64 0, .int .i64 0, .int .i64 0, .int .i64 0])).run Try.prog w = .ok z w := fun w => by rw [← sq_z64, eqSq hz64 zs64_len w, unhide HZ]
          have hPLL : P.length = L.length := by rw [unhide HPL, unhide HLL]
          have hkL : pre.length < (mixL P L pre.length).length := by rw [mixL_len hPLL, ← hPLL]; exact unhide HKP
          have put0 := fun (Wp : World) (hT : Th_gridrows Wp g (mixL P L pre.length)) => gridPut bw bh g gc r cc (mixL P L pre.length) ys hz64 (by omega) (by omega) (by omega) pre.length HK1 hkL Wp hT
          rw [mixL_len hPLL] at put0
          have PUT0 := hide put0
          have GOON : Hid (blockB (hidB bw (nwG wd n C c) (nhG ht n C c) pre.length) (P.getD pre.length []) = true → ∀ Wp W'', W'.grownBy Wp none → Th_gridrows W'' g ((mixL P L pre.length).set pre.length ys) → Wp.grownBy W'' (some g) → (Th_gridrows W'' g (mixL P L (pre ++ [(r, cc)]).length) ∧ (∀ k, k < (pre ++ [(r, cc)]).length → blockB (hidB bw (nwG wd n C c) (nhG ht n C c) k) (P.getD k []) = true) ∧ W''.heap[w.heap.size + 1 + 1 + 1]? = some (.cells #[.bool false] 4 (0, 0))) ∧ But (fun k => k = g ∨ k = w.heap.size + 1 + 1 + 1) Wa W'') := fun hok Wp W'' gp tT gT => by
            have el : (pre ++ [(r, cc)]).length = pre.length + 1 := by simp
            rw [el]
            refine ⟨⟨?_, fun k hk => ?_, ?_⟩, ?_⟩
            · rw [← unhide HZS, mixL_set hPLL _ (by rw [mixL_len hPLL] at hkL; exact hkL)] at tT; exact tT
            · by_cases e9 : k < pre.length
              · exact unhide HOKS k e9
              · obtain rfl : k = pre.length := by omega
                exact hok
            · exact grown_atT gT (grown_atT gp (unhide H6) (by simp)) (by simp; omega)
            · exact (But.of_grown (grown_trans (unhide HGR) gp) (fun q e => by cases e)).trans (But.of_grown gT (fun q e => by cases e; exact .inl rfl))
          clear put0 hkL hPLL
          cases z
          · have i2 : (0 : Int) ≤ (c : Int) := i0
            obtain ⟨sh, HSH⟩ : ∃ sh, Hid ((decide (0 ≤ (c : Int) ∧ (c : Int) ≤ (n : Int) - 1) && (decide (0 ≤ (r : Int) ∧ (r : Int) ≤ (nhG ht n C (c : Int).toNat : Int) - 1) && decide (0 ≤ (cc : Int) ∧ (cc : Int) ≤ (nwG wd n C (c : Int).toNat : Int) - 1))) = sh) := ⟨_, rfl⟩
            have HSE : Hid (blockB (hidB bw (nwG wd n C c) (nhG ht n C c) pre.length) (P.getD pre.length []) = sh) := by
              unfold Hid blockB
              rw [unhide HZS, unhide HOK, ← zero_same hz64, unhide HZ, ← unhide HK1, hid_spot hk3, ← unhide HSH, Int.toNat_natCast]
              rw [Bool.eq_iff_iff]
              simp only [Bool.and_eq_true, Bool.or_eq_true, Bool.not_eq_true', Bool.or_eq_false_iff, decide_eq_true_eq, decide_eq_false_iff_not, Bool.false_eq_true, or_false, true_and]
              omega
            gi_wp2_with (first | (refine skip_in (by rfl) ?_) | (refine load_rowR rfl 62 _ rfl b rfl (sq ys) 62 (unhide HBb) _ Try.underlying62 rfl (by rw [unhide HSY]; kernel_rfl) ?_) | (refine load_rowR rfl 76 _ rfl W4.heap.size rfl #[.int .i64 (bw : Int), .int .i64 (bh : Int), .slice (some ⟨g, 0, none⟩) L.length gc] 76 (unhide Y7) _ Try.underlying76 rfl (by kernel_rfl) ?_) | (refine load_rowR rfl 56 _ rfl w.heap.size rfl (plV X (.slice (some ⟨gr, 0, none⟩) n gcap)) 56 (unhide Y3) _ Try.underlying56 rfl (by rw [plV_size (unhide HSX)]; kernel_rfl) ?_))
            refine ⟨trivial, (fun h => by simp [Fence.wide] at h), ?_⟩
            refine (CallsIn.inRound l' (callsIn_wide.2 (planesShows X p wd ht rs n C (unhide HX) (unhide HGE) _ (c : Int) (r : Int) (cc : Int) sh HSH W'))).mono ?_
            rintro e w9 ⟨rfl, g9⟩
            have T9 := hide ((unhide T1).grown g9)
            have Z7 := hide (grown_atT g9 (unhide Y7) (by simp))
            have Zb := hide (grown_atT g9 (unhide HBb) (by simp))
            cases sh
            · have htf : t = false := unhide HBAD (unhide HSE)
              obtain ⟨c9, st9⟩ := unhide STOP htf w9 g9
              have k9 : w9.cell? ⟨w.heap.size + 1 + 1 + 1, 0, none⟩ = some (.bool false) := by rw [cell_of_row _ _ 0 _ _ (0, 0) c9]; rfl
              have f9 := frozen_of_row w9 (w.heap.size + 1 + 1 + 1) 0 _ _ c9
              have ST9 := hide st9
              clear st9 c9
              gi_wp2
              exact unhide ST9
            · gi_wp2_with (first | (refine load_rowR rfl 62 _ rfl b rfl (sq ys) 62 (unhide Zb) _ Try.underlying62 rfl (by rw [unhide HSY]; kernel_rfl) ?_) | (refine load_rowR rfl 76 _ rfl W4.heap.size rfl #[.int .i64 (bw : Int), .int .i64 (bh : Int), .slice (some ⟨g, 0, none⟩) L.length gc] 76 (unhide Z7) _ Try.underlying76 rfl (by kernel_rfl) ?_))
              refine ⟨trivial, (fun h => by simp [Fence.wide] at h), ?_⟩
              refine (CallsIn.inRound l' (callsIn_wide.2 (unhide PUT0 w9 (unhide T9)))).mono ?_
              rintro e w10 ⟨⟨v9, rfl⟩, t9, g10⟩
              gi_wp2
              exact unhide GOON (unhide HSE) w9 w10 g9 t9 g10
          · have hblk : blockB (hidB bw (nwG wd n C c) (nhG ht n C c) pre.length) (P.getD pre.length []) = true := by
              unfold blockB
              rw [unhide HZS, unhide HOK, ← zero_same hz64, unhide HZ]
              simp
            have HBK := hide hblk
            clear hblk
            gi_wp2_with (first | (refine skip_in (by rfl) ?_) | (refine load_rowR rfl 62 _ rfl b rfl (sq ys) 62 (unhide HBb) _ Try.underlying62 rfl (by rw [unhide HSY]; kernel_rfl) ?_) | (refine load_rowR rfl 76 _ rfl W4.heap.size rfl #[.int .i64 (bw : Int), .int .i64 (bh : Int), .slice (some ⟨g, 0, none⟩) L.length gc] 76 (unhide Y7) _ Try.underlying76 rfl (by kernel_rfl) ?_) | (refine load_rowR rfl 56 _ rfl w.heap.size rfl (plV X (.slice (some ⟨gr, 0, none⟩) n gcap)) 56 (unhide Y3) _ Try.underlying56 rfl (by rw [plV_size (unhide HSX)]; kernel_rfl) ?_))
            refine ⟨trivial, (fun h => by simp [Fence.wide] at h), ?_⟩
            refine (CallsIn.inRound l' (callsIn_wide.2 (unhide PUT0 W' (unhide T1)))).mono ?_
            rintro e w9 ⟨⟨v9, rfl⟩, t9, g9⟩
            gi_wp2
            exact unhide GOON (unhide HBK) W' w9 (World.grownBy.refl _ _) t9 g9
    case done =>
      intro D W9 hD hi b9 hdef
      obtain ⟨t9, ok9, r9⟩ := hi
      have hlen9 : (sTo bw bh).length = L.length := by rw [sTo_len, unhide HLL, Nat.mul_comm]
      have hPLL : P.length = L.length := by rw [unhide HPL, unhide HLL]
      rw [hlen9, mixL_all hPLL] at t9
      have htt : t = true := by rw [← unhide HT]; exact plane_all (unhide HPL) (fun k hk => ok9 k (by rw [hlen9, ← hPLL]; exact hk))
      have c9 : W9.cell? ⟨w.heap.size + 1 + 1 + 1, 0, none⟩ = some (.bool false) := by rw [cell_of_row _ _ 0 _ _ (0, 0) r9]; rfl
      have f9 := frozen_of_row W9 (w.heap.size + 1 + 1 + 1) 0 _ _ r9
      have gs := grown_set W9 (w.heap.size + 1 + 1 + 1) 0 (.bool true)
      have cs : (W9.setCell ⟨w.heap.size + 1 + 1 + 1, 0, none⟩ (.bool true)).cell? ⟨w.heap.size + 1 + 1 + 1, 0, none⟩ = some (.bool true) := World.cell?_setCell_same _ _ _ c9
      have T9 := hide t9
      have HDEF := hide (grown_atT gs hdef (by have := unhide HS4; simp; omega))
      have HB9 := hide b9
      have HLE := hide hPLL
      subst htt
      clear t9 ok9 r9 hdef b9 hlen9 hPLL
      go_wp2
      refine ⟨by simp, .inl ⟨_, _, rfl, run_takeDeferred (unhide HDEF), ?_⟩⟩
      have hS4 := unhide HS4
      have cs' : ((W9.setCell ⟨w.heap.size + 1 + 1 + 1, 0, none⟩ (.bool true)).putObj D (.deferred none)).cell? ⟨w.heap.size + 1 + 1 + 1, 0, none⟩ = some (.bool true) := by
        unfold World.cell? at cs ⊢
        rw [World.putObj_heap_other (by show w.heap.size + 1 + 1 + 1 ≠ D; omega)]
        exact cs
      have w9r : Wr [g] w ((W9.setCell ⟨w.heap.size + 1 + 1 + 1, 0, none⟩ (.bool true)).putObj D (.deferred none)) := by
        have gd : w.grownBy w8 none := grown_trans (unhide HG4) (unhide D8)
        have b9 := unhide HB9
        have gp := grownBy_putObj' (W9.setCell ⟨w.heap.size + 1 + 1 + 1, 0, none⟩ (.bool true)) D (.deferred none)
        refine ⟨gp.os.trans (gs.os.trans (b9.os.trans gd.os)), gp.tape.trans (gs.tape.trans (b9.tape.trans gd.tape)), gp.output.trans (gs.output.trans (b9.output.trans gd.output)), Nat.le_trans gd.size (Nat.le_trans b9.size (Nat.le_trans gs.size gp.size)), fun q hq hn => ?_⟩
        have hqg : q ≠ g := fun e => hn (by simp [e])
        have hg8 := gd.size
        rw [World.putObj_heap_other (by omega), heap_setCell_other W9 ⟨w.heap.size + 1 + 1 + 1, 0, none⟩ q _ (by show q ≠ w.heap.size + 1 + 1 + 1; omega), b9.block q (by omega) (fun e => by omega)]
        exact gd.block q hq (by simp)
      have t9' : Th_gridrows ((W9.setCell ⟨w.heap.size + 1 + 1 + 1, 0, none⟩ (.bool true)).putObj D (.deferred none)) g P := (unhide T9).same (by rw [World.putObj_heap_other (by omega), heap_setCell_other W9 ⟨w.heap.size + 1 + 1 + 1, 0, none⟩ g _ (by show g ≠ w.heap.size + 1 + 1 + 1; omega)])
      obtain ⟨F9, o9, n9, m9⟩ := unhide TURN _ P w9r t9' (unhide HLE)
      exact ⟨_, (by rw [results_c1 rfl]; simp only [Array.getD_eq_getD_getElem?]; exact load_bool cs'), rfl, ⟨g, hgF, w9r⟩, ⟨F9, o9, n9, m9⟩⟩
    case stop =>
      intro D W9 hD hi b9 hdef
      obtain ⟨rfl, r9⟩ := hi
      refine ⟨by simp, .inl ⟨_, _, rfl, run_takeDeferred hdef, ?_⟩⟩
      have hS4 := unhide HS4
      have cs' : (W9.putObj D (.deferred none)).cell? ⟨w.heap.size + 1 + 1 + 1, 0, none⟩ = some (.bool false) := by
        rw [cell_of_row _ _ 0 _ _ (0, 0) ((World.putObj_heap_other (by omega)).trans r9)]
        rfl
      have w9r : Wr [g] w (W9.putObj D (.deferred none)) := by
        have gd : w.grownBy w8 none := grown_trans (unhide HG4) (unhide D8)
        have gp := grownBy_putObj' W9 D (.deferred none)
        refine ⟨gp.os.trans (b9.os.trans gd.os), gp.tape.trans (b9.tape.trans gd.tape), gp.output.trans (b9.output.trans gd.output), Nat.le_trans gd.size (Nat.le_trans b9.size gp.size), fun q hq hn => ?_⟩
        have hqg : q ≠ g := fun e => hn (by simp [e])
        have hg8 := gd.size
        rw [World.putObj_heap_other (by omega), b9.block q (by omega) (fun e => by omega)]
        exact gd.block q hq (by simp)
      exact ⟨_, (by rw [results_c1 rfl]; simp only [Array.getD_eq_getD_getElem?]; exact load_bool cs'), rfl, ⟨g, hgF, w9r⟩, fun e => by cases e⟩
  · have hpl : ((P.length : Int) != (bw : Int) * (bh : Int)) = true := by rw [bne_iff_ne]; intro e; exact hPL (by exact_mod_cast e)
    obtain rfl : t = false := by rw [← unhide HT]; exact plane_short hPL
    go_simp
    refine hK.out _ _ (.inl rfl) (tailL_nil (NoPanic.normal ?_))
    clear hK K
    have gs := grown_set w7 (w.heap.size + 1 + 1 + 1) 0 (.bool false)
    have cs : (w7.setCell ⟨w.heap.size + 1 + 1 + 1, 0, none⟩ (.bool false)).cell? ⟨w.heap.size + 1 + 1 + 1, 0, none⟩ = some (.bool false) := World.cell?_setCell_same _ _ _ cr
    go_wp2
    refine ⟨_, (by rw [results_c1 rfl]; simp only [Array.getD_eq_getD_getElem?]; exact load_bool cs), rfl, ⟨g, hgF, ?_⟩, fun e => by cases e⟩
    exact Wr.ofNone (grown_new (grown_trans (unhide HG4) d7) gs (fun q e => by simp at e; omega))

end Go.Proofs.Ytdhgfbdanijgaaa

namespace Go.Proofs.Ytdhgfbdanijgaaa
open Go.RowKit Go.Shelf

theorem dims_congr {wd ht : Int} {n : Nat} {C D : Nat → Nat → Int} (e : ∀ i, i < n → D i = C i) (c : Nat) (hc : c < n) : bwG wd n D c = bwG wd n C c ∧ bhG ht n D c = bhG ht n C c ∧ nwG wd n D c = nwG wd n C c ∧ nhG ht n D c = nhG ht n C c := by
  refine ⟨?_, ?_, ?_, ?_⟩
  · unfold bwG; rw [mostA_congr n e, e c hc]
  · unfold bhG; rw [mostA_congr n e, e c hc]
  · unfold nwG; rw [mostA_congr n e, e c hc]
  · unfold nhG; rw [mostA_congr n e, e c hc]

/-- The grids of a frame: the first i of coefficients, behind them noughts. -/
def gridsTo (wd ht : Int) (n : Nat) (C : Nat → Nat → Int) (Y : List (List (List Int))) (i : Nat) : List Gd := (List.range n).map fun c => (bwG wd n C c, bhG ht n C c, if c < i then Y.getD c [] else List.replicate (bwG wd n C c * bhG ht n C c) noughts)
theorem gridsTo_len (wd ht : Int) (n : Nat) (C : Nat → Nat → Int) (Y : List (List (List Int))) (i : Nat) : (gridsTo wd ht n C Y i).length = n := by simp [gridsTo]
theorem gridsTo_at (wd ht : Int) (n : Nat) (C : Nat → Nat → Int) (Y : List (List (List Int))) (i c : Nat) (hc : c < n) : (gridsTo wd ht n C Y i).getD c (0, 0, []) = (bwG wd n C c, bhG ht n C c, if c < i then Y.getD c [] else List.replicate (bwG wd n C c * bhG ht n C c) noughts) := by simp [gridsTo, hc]
theorem gridsTo_zero (wd ht : Int) (n : Nat) (C : Nat → Nat → Int) (Y : List (List (List Int))) : gridsTo wd ht n C Y 0 = newGr n (bwG wd n C) (bhG ht n C) := by simp [gridsTo, newGr]
theorem gridsTo_set (wd ht : Int) (n : Nat) (C : Nat → Nat → Int) (Y : List (List (List Int))) (i : Nat) (hi : i < n) : (gridsTo wd ht n C Y i).set i (bwG wd n C i, bhG ht n C i, Y.getD i []) = gridsTo wd ht n C Y (i + 1) := by
  apply List.ext_getElem?
  intro c
  by_cases hc : c < n
  · rw [List.getElem?_set]
    have e1 : (gridsTo wd ht n C Y i)[c]? = some (bwG wd n C c, bhG ht n C c, if c < i then Y.getD c [] else List.replicate (bwG wd n C c * bhG ht n C c) noughts) := by simp [gridsTo, hc]
    have e2 : (gridsTo wd ht n C Y (i + 1))[c]? = some (bwG wd n C c, bhG ht n C c, if c < i + 1 then Y.getD c [] else List.replicate (bwG wd n C c * bhG ht n C c) noughts) := by simp [gridsTo, hc]
    rw [e1, e2, gridsTo_len]
    by_cases e : i = c
    · subst e; rw [if_pos rfl, if_pos hi, if_pos (by omega)]
    · rw [if_neg e]
      by_cases h : c < i
      · rw [if_pos h, if_pos (by omega)]
      · rw [if_neg h, if_neg (by omega)]
  · rw [List.getElem?_eq_none (by rw [List.length_set, gridsTo_len]; omega), List.getElem?_eq_none (by rw [gridsTo_len]; omega)]
/-- The grids of coefficients that are ok. -/
def gridsOf (wd ht : Int) (n : Nat) (C : Nat → Nat → Int) (Y : List (List (List Int))) : List Gd := gridsTo wd ht n C Y n
theorem coefs_gridsOf {wd ht : Int} {n : Nat} {C : Nat → Nat → Int} {Y : List (List (List Int))} (h : Y.length = n) : coefsG (gridsOf wd ht n C Y) = Y := by
  apply List.ext_getElem?
  intro c
  by_cases hc : c < n
  · have : Y[c]? = some (Y.getD c []) := by simp [show c < Y.length by omega]
    rw [this]
    simp [coefsG, gridsOf, gridsTo, hc]
  · rw [List.getElem?_eq_none (by simp [coefsG, gridsOf, gridsTo]; omega), List.getElem?_eq_none (by omega)]
theorem coefs_newGr (n : Nat) (bw bh : Nat → Nat) : coefsG (newGr n bw bh) = emptyG n (fun c => bw c * bh c) := by simp [coefsG, newGr, emptyG]

set_option maxRecDepth 20000 in
/-- Planes of noughts, of a frame that was fixed. -/
theorem emptyOf (p wd ht rs : Int) (n : Nat) (C : Nat → Nat → Int) (b : Bool) (HFB : Hid (frameB p wd ht rs n C = b)) (X : Array Value) (h1 : b = false → X = #[.int .i64 0, .int .i64 0, .int .i64 0, .int .i64 0, .int .i64 0, .int .i64 0, .int .i64 0, .int .i64 0, .int .i64 0, .int .i64 0, .int .i64 0, .int .i64 0, .int .i64 0, .int .i64 0, .int .i64 0, .int .i64 0, .int .i64 0, .int .i64 0, .int .i64 0, .int .i64 0, .int .i64 0]) (h2 : b = true → ∃ D, Fx X p wd ht rs n D ∧ ∀ i, i < n → D i = C i) (w : World) :
    Calls Try.prog 24 #[.agg X] w fun e w' => ∃ gv F, e = .returned (.agg (plV X gv)) ∧ OwGr w' gv (if b = true then newGr n (bwG wd n C) (bhG ht n C) else []) F ∧ F.Nodup ∧ (∀ x ∈ F, w.heap.size ≤ x) ∧ w.grownBy w' none := by
  cases b
  · rw [h1 rfl]
    exact emptyPlanes #[.int .i64 0, .int .i64 0, .int .i64 0, .int .i64 0, .int .i64 0, .int .i64 0, .int .i64 0, .int .i64 0, .int .i64 0, .int .i64 0, .int .i64 0, .int .i64 0, .int .i64 0, .int .i64 0, .int .i64 0, .int .i64 0, .int .i64 0, .int .i64 0, .int .i64 0, .int .i64 0, .int .i64 0] rfl fzOne 0 (by omega) rfl (fun _ => 0) (fun _ => 0) (fun c hc => by omega) (fun c hc => by omega) w
  · obtain ⟨D, hF, hD⟩ := h2 rfl
    have hG := (geo_of (unhide HFB)).congr hD
    have em : mostA 1 C 1 n = mostA 1 D 1 n := (mostA_congr n hD).symm
    have ev : mostA 1 C 2 n = mostA 1 D 2 n := (mostA_congr n hD).symm
    rw [em, ev] at hG
    have e : newGr n (bwG wd n C) (bhG ht n C) = newGr n (bwG wd n D) (bhG ht n D) := by
      unfold newGr
      refine List.map_congr_left (fun c hc => ?_)
      have hc' : c < n := by simpa using hc
      obtain ⟨e1, e2, _, _⟩ := dims_congr (wd := wd) (ht := ht) hD c hc'
      rw [e1, e2]
    rw [if_pos rfl, e]
    refine emptyPlanes X hF.size hF.one n hG.n4 hF.c4 (bwG wd n D) (bhG ht n D) (fun c hc => ?_) (fun c hc W => ?_) w
    · have d := dims_of hG c hc
      have := d.bw1
      have := d.bh1
      omega
    · have d := dims_of hG c hc
      have e1 := d.bw
      have e2 := d.bh
      rw [Int.mul_comm] at e1 e2
      have := blocks X p wd ht rs n D hF _ _ hG c hc _ _ rfl rfl W
      rw [e1, e2] at this
      exact this

/-- What fixCoefs answers. -/
def FixedTo (p wd ht rs : Int) (n : Nat) (C : Nat → Nat → Int) (Y : List (List (List Int))) (base : Nat) (b : Bool) (A : Array Value) (w' : World) : Prop :=
  (b = false → A = #[.int .i64 0, .int .i64 0, .int .i64 0, .int .i64 0, .int .i64 0, .int .i64 0, .int .i64 0, .int .i64 0, .int .i64 0, .int .i64 0, .int .i64 0, .int .i64 0, .int .i64 0, .int .i64 0, .int .i64 0, .int .i64 0, .int .i64 0, .int .i64 0, .int .i64 0, .int .i64 0, .int .i64 0, .slice none 0 0]) ∧ (b = true → ∃ X D gv F, A = plV X gv ∧ Fx X p wd ht rs n D ∧ (∀ i, i < n → D i = C i) ∧ OwGr w' gv (gridsOf wd ht n C Y) F ∧ F.Nodup ∧ ∀ x ∈ F, base ≤ x)

end Go.Proofs.Ytdhgfbdanijgaaa

namespace Go.Proofs.Ytdhgfbdanijgaaa
open Go.RowKit Go.Shelf

/-- While planes are filled. -/
structure Fc (w wr : World) (X : Array Value) (gv v : Value) (b6 : Nat) : Prop where
  c : wr.heap[w.heap.size + 1]? = some (.cells #[v] 44 (0, 0))
  r : wr.heap[w.heap.size + 1 + 1]? = some (.cells #[.int .i64 0, .int .i64 0, .int .i64 0, .int .i64 0, .int .i64 0, .int .i64 0, .int .i64 0, .int .i64 0, .int .i64 0, .int .i64 0, .int .i64 0, .int .i64 0, .int .i64 0, .int .i64 0, .int .i64 0, .int .i64 0, .int .i64 0, .int .i64 0, .int .i64 0, .int .i64 0, .int .i64 0, .slice none 0 0] 56 (0, 0))
  all : wr.heap[b6]? = some (.cells (plV X gv) 56 (0, 0))
  grown : w.grownBy wr none
theorem Fc.new {w wr w' : World} {X : Array Value} {gv v : Value} {b6 : Nat} (h : Fc w wr X gv v b6) (g : wr.grownBy w' none) : Fc w w' X gv v b6 :=
  ⟨grown_atT g h.c (by simp), grown_atT g h.r (by simp), grown_atT g h.all (by simp), grown_trans h.grown g⟩

theorem pzOne : (#[.int .i64 0, .int .i64 0, .int .i64 0, .int .i64 0, .int .i64 0, .int .i64 0, .int .i64 0, .int .i64 0, .int .i64 0, .int .i64 0, .int .i64 0, .int .i64 0, .int .i64 0, .int .i64 0, .int .i64 0, .int .i64 0, .int .i64 0, .int .i64 0, .int .i64 0, .int .i64 0, .int .i64 0, .slice none 0 0] : Array Value).all (·.oneCell') = true := by simp [Value.oneCell']

set_option maxRecDepth 100000 in
set_option maxHeartbeats 6400000 in
theorem fixCoefs (p wd ht rs : Int) (ao : Option Addr) (n cap : Nat) (C : Nat → Nat → Int) (v : Value) (Y : List (List (List Int))) (w : World) (hr : RdC w ao n C) (hn : n ≤ 4194304) (hY : Rd3 w v Y) (fb b : Bool) (HFB : Hid (frameB p wd ht rs n C = fb)) (HB : Hid (coefsOkF fb wd ht n C Y = b)) :
    Calls Try.prog 18 #[.agg #[.int .i64 p, .int .i64 wd, .int .i64 ht, .int .i64 rs, .slice ao n cap], .agg #[v]] w fun e w' => ∃ A, e = .returned (.tuple #[.agg A, .bool b]) ∧ FixedTo p wd ht rs n C Y w.heap.size b A w' ∧ w.grownBy w' none := by
  obtain ⟨vo, vc, rfl, hYr⟩ := hY
  obtain ⟨W0, hW0⟩ : ∃ W0, ((w.alloc (.cells #[.int .i64 p, .int .i64 wd, .int .i64 ht, .int .i64 rs, .slice ao n cap] 38)).alloc (.cells #[.slice vo Y.length vc] 44)).alloc (.cells #[.int .i64 0, .int .i64 0, .int .i64 0, .int .i64 0, .int .i64 0, .int .i64 0, .int .i64 0, .int .i64 0, .int .i64 0, .int .i64 0, .int .i64 0, .int .i64 0, .int .i64 0, .int .i64 0, .int .i64 0, .int .i64 0, .int .i64 0, .int .i64 0, .int .i64 0, .int .i64 0, .int .i64 0, .slice none 0 0] 56) = W0 := ⟨_, rfl⟩
  have G0 : w.grownBy W0 none := by rw [← hW0]; exact grown_alloc (grown_alloc (World.grownBy_alloc _ _ _) _) _
  have s0 : W0.heap.size = w.heap.size + 3 := by rw [← hW0]; simp
  have p1 : W0.heap[w.heap.size + 1]? = some (.cells #[.slice vo Y.length vc] 44 (0, 0)) := by
    rw [← hW0, Below.heap_alloc _ _ _ (by simp)]
    have := heap_alloc_new (w.alloc (.cells #[.int .i64 p, .int .i64 wd, .int .i64 ht, .int .i64 rs, .slice ao n cap] 38)) (.cells #[.slice vo Y.length vc] 44)
    simpa using this
  have p2 : W0.heap[w.heap.size + 1 + 1]? = some (.cells #[.int .i64 0, .int .i64 0, .int .i64 0, .int .i64 0, .int .i64 0, .int .i64 0, .int .i64 0, .int .i64 0, .int .i64 0, .int .i64 0, .int .i64 0, .int .i64 0, .int .i64 0, .int .i64 0, .int .i64 0, .int .i64 0, .int .i64 0, .int .i64 0, .int .i64 0, .int .i64 0, .int .i64 0, .slice none 0 0] 56 (0, 0)) := by
    rw [← hW0]
    have := heap_alloc_new ((w.alloc (.cells #[.int .i64 p, .int .i64 wd, .int .i64 ht, .int .i64 rs, .slice ao n cap] 38)).alloc (.cells #[.slice vo Y.length vc] 44)) (.cells #[.int .i64 0, .int .i64 0, .int .i64 0, .int .i64 0, .int .i64 0, .int .i64 0, .int .i64 0, .int .i64 0, .int .i64 0, .int .i64 0, .int .i64 0, .int .i64 0, .int .i64 0, .int .i64 0, .int .i64 0, .int .i64 0, .int .i64 0, .int .i64 0, .int .i64 0, .int .i64 0, .int .i64 0, .slice none 0 0] 56)
    simpa using this
  have HR := hide (hr.grown G0)
  have HYR := hide hYr
  have HW := hide hW0
  have P1 := hide p1
  have P2 := hide p2
  have HG0 := hide G0
  have HS0 := hide s0
  clear hr hYr hW0 p1 p2 G0 s0
  go_enter Try.func18, Try.ntmps18
  go_wp2_with fail
  rw [unhide HW]
  clear HW
  refine (fixFrame p wd ht rs ao n cap C W0 (unhide HR) hn fb HFB).mono ?_
  rintro e w1 ⟨X, rfl, h1, h2, g1⟩
  have H1 := hide h1
  have H2 := hide h2
  have HG1 := hide g1
  have HSX : Hid (X.size = 21) := by
    cases fb
    · rw [h1 rfl]; rfl
    · obtain ⟨D, hF, _⟩ := h2 rfl; exact hF.size
  have HOX : Hid (X.all (·.oneCell') = true) := by
    cases fb
    · rw [h1 rfl]; exact fzOne
    · obtain ⟨D, hF, _⟩ := h2 rfl; exact hF.one
  clear h1 h2 g1
  go_wp2_with fail
  refine (emptyOf p wd ht rs n C fb HFB X (unhide H1) (unhide H2) w1).mono ?_
  rintro e w2 ⟨gv, F, rfl, o2, n2, l2, g2⟩
  obtain ⟨go, gcap, rfl⟩ := o2.form
  generalize hgl : (if fb = true then newGr n (bwG wd n C) (bhG ht n C) else []).length = gn at *
  have G2 : w.grownBy w2 none := grown_trans (unhide HG0) (grown_trans (unhide HG1) g2)
  have hs2 : w.heap.size + 3 ≤ w2.heap.size := by
    have h3 := (unhide HG1).size
    have h4 := g2.size
    have h5 := unhide HS0
    omega
  have hl1 : w.heap.size + 3 ≤ w1.heap.size := by
    have h3 := (unhide HG1).size
    have h5 := unhide HS0
    omega
  have HB6 := hide (heap_alloc_new w2 (.cells #[.int .i64 0, .int .i64 0, .int .i64 0, .int .i64 0, .int .i64 0, .int .i64 0, .int .i64 0, .int .i64 0, .int .i64 0, .int .i64 0, .int .i64 0, .int .i64 0, .int .i64 0, .int .i64 0, .int .i64 0, .int .i64 0, .int .i64 0, .int .i64 0, .int .i64 0, .int .i64 0, .int .i64 0, .slice none 0 0] 56))
  have HST : Hid (∀ w3 : World, w3.heap[w2.heap.size]? = some (.cells (plV X (.slice go gn gcap)) 56 (0, 0)) → (w2.alloc (.cells #[.int .i64 0, .int .i64 0, .int .i64 0, .int .i64 0, .int .i64 0, .int .i64 0, .int .i64 0, .int .i64 0, .int .i64 0, .int .i64 0, .int .i64 0, .int .i64 0, .int .i64 0, .int .i64 0, .int .i64 0, .int .i64 0, .int .i64 0, .int .i64 0, .int .i64 0, .int .i64 0, .int .i64 0, .slice none 0 0] 56)).grownBy w3 (some w2.heap.size) → Fc w w3 X (.slice go gn gcap) (.slice vo Y.length vc) w2.heap.size ∧ OwGr w3 (.slice go gn gcap) (if fb = true then newGr n (bwG wd n C) (bhG ht n C) else []) F) := by
    intro w3 hB3 g3
    have ga : w2.grownBy (w2.alloc (.cells #[.int .i64 0, .int .i64 0, .int .i64 0, .int .i64 0, .int .i64 0, .int .i64 0, .int .i64 0, .int .i64 0, .int .i64 0, .int .i64 0, .int .i64 0, .int .i64 0, .int .i64 0, .int .i64 0, .int .i64 0, .int .i64 0, .int .i64 0, .int .i64 0, .int .i64 0, .int .i64 0, .int .i64 0, .slice none 0 0] 56)) none := World.grownBy_alloc _ _ _
    have g23 : w2.grownBy w3 none := grown_new ga g3 (fun q e => by simp at e; omega)
    have g03 : W0.grownBy w3 none := grown_trans (grown_trans (unhide HG1) g2) g23
    exact ⟨⟨grown_atT g03 (unhide P1) (by simp), grown_atT g03 (unhide P2) (by simp), hB3, grown_trans (unhide HG0) g03⟩, okGr.keep o2 g23⟩
  have N2 := hide n2
  have L2 : Hid (∀ x ∈ F, w.heap.size ≤ x ∧ w.heap.size + 3 ≤ x) := fun x hx => by have := l2 x hx; omega
  have LT2 : Hid (∀ x ∈ F, x < w2.heap.size) := fun x hx => okGr.lt _ _ _ _ o2 x hx
  have HGL := hide hgl
  clear o2 n2 l2 g2 hgl G2
  go_wp2_with (first | (refine store_row rfl 56 _ _ rfl w2.heap.size rfl (plV X (.slice go gn gcap)) rfl #[.int .i64 0, .int .i64 0, .int .i64 0, .int .i64 0, .int .i64 0, .int .i64 0, .int .i64 0, .int .i64 0, .int .i64 0, .int .i64 0, .int .i64 0, .int .i64 0, .int .i64 0, .int .i64 0, .int .i64 0, .int .i64 0, .int .i64 0, .int .i64 0, .int .i64 0, .int .i64 0, .int .i64 0, .slice none 0 0] 56 (unhide HB6) (by rw [plV_size (unhide HSX)]; rfl) (by rw [plV_size (unhide HSX)]; kernel_rfl) (plV_one (unhide HOX) rfl) ?_; intro w3 hB3 g3; obtain ⟨hE, o3⟩ := unhide HST w3 hB3 g3; have HE := hide hE; have O3 := hide o3; clear hB3 g3 hE o3) | (refine load_mid rfl 51 _ rfl w2.heap.size 0 rfl X (pl_frame (unhide HE).all) _ Try.underlying51 rfl (by rw [unhide HSX]; kernel_rfl) ?_))
  clear HST HB6 P1 P2
  cases fb
  · have eX := unhide H1 rfl
    subst eX
    obtain rfl : b = false := by rw [← unhide HB]; rfl
    refine (isNone_yes _).mono ?_
    rintro e w4 ⟨rfl, g4⟩
    have E4 := hide ((unhide HE).new g4)
    clear g4 HE
    go_wp2_with (refine store_row rfl 56 _ _ rfl (w.heap.size + 1 + 1) rfl #[.int .i64 0, .int .i64 0, .int .i64 0, .int .i64 0, .int .i64 0, .int .i64 0, .int .i64 0, .int .i64 0, .int .i64 0, .int .i64 0, .int .i64 0, .int .i64 0, .int .i64 0, .int .i64 0, .int .i64 0, .int .i64 0, .int .i64 0, .int .i64 0, .int .i64 0, .int .i64 0, .int .i64 0, .slice none 0 0] rfl #[.int .i64 0, .int .i64 0, .int .i64 0, .int .i64 0, .int .i64 0, .int .i64 0, .int .i64 0, .int .i64 0, .int .i64 0, .int .i64 0, .int .i64 0, .int .i64 0, .int .i64 0, .int .i64 0, .int .i64 0, .int .i64 0, .int .i64 0, .int .i64 0, .int .i64 0, .int .i64 0, .int .i64 0, .slice none 0 0] 56 (unhide E4).r rfl (by kernel_rfl) pzOne ?_; intro w8 hB8 g8)
    refine bodyPost_ret (v := .tuple #[.agg #[.int .i64 0, .int .i64 0, .int .i64 0, .int .i64 0, .int .i64 0, .int .i64 0, .int .i64 0, .int .i64 0, .int .i64 0, .int .i64 0, .int .i64 0, .int .i64 0, .int .i64 0, .int .i64 0, .int .i64 0, .int .i64 0, .int .i64 0, .int .i64 0, .int .i64 0, .int .i64 0, .int .i64 0, .slice none 0 0], .bool false]) ?_ rfl ⟨_, rfl, ⟨fun _ => rfl, fun e => by cases e⟩, ?_⟩
    · exact results_c2 (p := 4) (q := 5) (ty := 56) rfl _ _ _ (w.heap.size + 1 + 1) rfl _ (run_loadVar_row w8 _ 56 56 _ (0, 0) _ hB8 Try.underlying56 rfl (by kernel_rfl))
    · exact grown_new (unhide E4).grown g8 (fun q e => by simp at e; omega)
  · obtain ⟨D, hF, hD⟩ := unhide H2 rfl
    have hG := (geo_of (unhide HFB)).congr hD
    have em : mostA 1 C 1 n = mostA 1 D 1 n := (mostA_congr n hD).symm
    have ev : mostA 1 C 2 n = mostA 1 D 2 n := (mostA_congr n hD).symm
    rw [em, ev] at hG
    have hn4 := hG.n4
    have hp : (p == 0) = false := by
      have h := unhide HFB
      rw [frameB, Bool.and_eq_true] at h
      rcases (headB_facts h.1).1 with rfl | rfl <;> rfl
    have HF := hide hF
    have HD := hide hD
    have HG := hide hG
    obtain rfl : gn = n := by rw [← unhide HGL, if_pos rfl, newGr_len]
    have hkB : coefsOkB wd ht gn C Y = b := by rw [← unhide HB]; rfl
    have HKB := hide hkB
    clear hF hD hG em ev hkB HB
    refine (isNone_no X p wd ht rs gn D (unhide HF) hp _).mono ?_
    rintro e w4 ⟨rfl, g4⟩
    have E4 := hide ((unhide HE).new g4)
    have O4 := hide (okGr.keep (unhide O3) g4)
    have c1 : w4.cell? ⟨w.heap.size + 1, 0, none⟩ = some (.slice vo Y.length vc) := by rw [cell_of_row _ _ 0 _ _ (0, 0) (unhide E4).c]; rfl
    have c2 := (pl_grids (unhide HSX) (unhide E4).all).1
    clear g4 HE O3 H1 H2
    by_cases hYn : Y.length = gn
    · have hyl : ((Y.length : Int) != (gn : Int)) = false := by simp [hYn]
      have HYN := hide hYn
      clear hYn
      have OT : Hid (OwGr w4 (.slice go gn gcap) (gridsTo wd ht gn C Y 0) F) := by unfold Hid; rw [gridsTo_zero]; exact unhide O4
      clear O4
      go_wp2
      clear c1 c2 hyl
      go_loopw [28] (fun iv wr => ∃ (i : Nat) (F' : List Nat), i ≤ Y.length ∧ iv = .int .i64 i ∧ Hid (Fc w wr X (.slice go gn gcap) (.slice vo Y.length vc) w2.heap.size) ∧ Hid (OwGr wr (.slice go gn gcap) (gridsTo wd ht gn C Y i) F') ∧ Hid F'.Nodup ∧ Hid (∀ x ∈ F', x ∈ F) ∧ Hid (∀ c, c < i → planeB (bwG wd gn C c) (bhG ht gn C c) (nwG wd gn C c) (nhG ht gn C c) (Y.getD c []) = true)) (fun iv _ => Y.length - (intOf iv).toNat)
      case atStart => exact ⟨0, F, Nat.zero_le _, rfl, E4, OT, N2, fun x hx => hx, fun c hc => by omega⟩
      case round =>
        clear E4 OT
        obtain ⟨i, F', hi, rfl, hE, hO, hN, hS, hK⟩ := hrel
        by_cases hlt : i < Y.length
        · have hltI : (i : Int) < (Y.length : Int) := by omega
          have hin : i < gn := by have := unhide HYN; omega
          obtain ⟨pb, poff, u, rfl, cu, ru⟩ := unhide HYR i hlt
          obtain ⟨P, HP⟩ : ∃ P, Hid (Y.getD i [] = P) := ⟨_, rfl⟩
          have eP : Y[i] = P := by rw [← unhide HP]; simp [hlt]
          rw [eP] at ru
          have cu' := (unhide hE).grown.cell cu (by simp)
          obtain ⟨uo, uc, rfl⟩ : ∃ uo uc, u = .slice uo P.length uc := by obtain ⟨uo, uc, e, _⟩ := ru; exact ⟨uo, uc, e⟩
          have RU := hide ru
          obtain ⟨e1, e2, e3, e4⟩ := dims_congr (wd := wd) (ht := ht) (unhide HD) i hin
          have hat := gridsTo_at wd ht gn C Y i i hin
          rw [if_neg (Nat.lt_irrefl i), ← e1, ← e2] at hat
          obtain ⟨t, HT⟩ : ∃ t, Hid (planeB (bwG wd gn C i) (bhG ht gn C i) (nwG wd gn C i) (nhG ht gn C i) P = t) := ⟨_, rfl⟩
          have HTD : Hid (planeB (bwG wd gn D i) (bhG ht gn D i) (nwG wd gn D i) (nhG ht gn D i) P = t) := by unfold Hid; rw [e1, e2, e3, e4]; exact unhide HT
          have FILL : Hid (Calls Try.prog 25 #[.agg (plV X (.slice go gn gcap)), .int .i64 (i : Int), .slice uo P.length uc] wr fun e w' => e = .returned (.bool t) ∧ (∃ g ∈ F', Wr [g] wr w') ∧ (t = true → ∃ F'', OwGr w' (.slice go gn gcap) ((gridsTo wd ht gn C Y i).set i (bwG wd gn D i, bhG ht gn D i, P)) F'' ∧ F''.Nodup ∧ ∀ x ∈ F'', x ∈ F')) := fillPlanes X p wd ht rs gn D (unhide HF) (unhide HG) _ _ F' wr (unhide hO) (unhide hN) (gridsTo_len _ _ _ _ _ _) i hin _ hat (by rw [List.length_replicate]) w (unhide hE).grown (fun x hx => (unhide L2 x (unhide hS x hx)).1) _ P (unhide RU) t HTD
          have ET : Hid (t = true → (gridsTo wd ht gn C Y i).set i (bwG wd gn D i, bhG ht gn D i, P) = gridsTo wd ht gn C Y (i + 1)) := fun _ => by rw [← unhide HP, e1, e2]; exact gridsTo_set wd ht gn C Y i hin
          have HLE : Hid (∀ x ∈ F', w.heap.size + 3 ≤ x ∧ x < w2.heap.size) := fun x hx => ⟨(unhide L2 x (unhide hS x hx)).2, unhide LT2 x (unhide hS x hx)⟩
          clear cu ru eP hat e1 e2 e3 e4 RU HTD
          go_wp2_with (refine load_row rfl 56 _ rfl w2.heap.size rfl (plV X (.slice go gn gcap)) 56 (unhide hE).all _ Try.underlying56 rfl (by rw [plV_size (unhide HSX)]; kernel_rfl) ?_)
          refine (unhide FILL).mono ?_
          rintro e w5 ⟨rfl, ⟨g, hgF, g5⟩, h5⟩
          obtain ⟨hg1, hg2⟩ := unhide HLE g hgF
          have hbl : w2.heap.size < wr.heap.size := (Array.getElem?_eq_some_iff.1 (unhide hE).all).1
          have E5 : Hid (Fc w w5 X (.slice go gn gcap) (.slice (some ⟨pb, poff, none⟩) Y.length vc) w2.heap.size) := by
            have E := unhide hE
            refine ⟨(g5.block _ (by omega) (fun e => by simp at e; omega)).trans E.c, (g5.block _ (by omega) (fun e => by simp at e; omega)).trans E.r, (g5.block _ hbl (fun e => by simp at e; omega)).trans E.all, Wr.new E.grown g5 (fun x hx => by simp at hx; omega)⟩
          have H5 := hide h5
          clear h5 g5 FILL hE hO cu'
          cases t
          · have hbf : b = false := by
              rw [← unhide HKB]
              cases hk : coefsOkB wd ht gn C Y with
              | false => rfl
              | true =>
                unfold coefsOkB at hk
                rw [Bool.and_eq_true] at hk
                have := List.all_eq_true.1 hk.2 i (by simpa using hlt)
                rw [unhide HP, unhide HT] at this
                exact this.symm
            subst hbf
            go_wp2_with (refine store_row rfl 56 _ _ rfl (w.heap.size + 1 + 1) rfl #[.int .i64 0, .int .i64 0, .int .i64 0, .int .i64 0, .int .i64 0, .int .i64 0, .int .i64 0, .int .i64 0, .int .i64 0, .int .i64 0, .int .i64 0, .int .i64 0, .int .i64 0, .int .i64 0, .int .i64 0, .int .i64 0, .int .i64 0, .int .i64 0, .int .i64 0, .int .i64 0, .int .i64 0, .slice none 0 0] rfl #[.int .i64 0, .int .i64 0, .int .i64 0, .int .i64 0, .int .i64 0, .int .i64 0, .int .i64 0, .int .i64 0, .int .i64 0, .int .i64 0, .int .i64 0, .int .i64 0, .int .i64 0, .int .i64 0, .int .i64 0, .int .i64 0, .int .i64 0, .int .i64 0, .int .i64 0, .int .i64 0, .int .i64 0, .slice none 0 0] 56 (unhide E5).r rfl (by kernel_rfl) pzOne ?_; intro w8 hB8 g8)
            refine bodyPost_ret (v := .tuple #[.agg #[.int .i64 0, .int .i64 0, .int .i64 0, .int .i64 0, .int .i64 0, .int .i64 0, .int .i64 0, .int .i64 0, .int .i64 0, .int .i64 0, .int .i64 0, .int .i64 0, .int .i64 0, .int .i64 0, .int .i64 0, .int .i64 0, .int .i64 0, .int .i64 0, .int .i64 0, .int .i64 0, .int .i64 0, .slice none 0 0], .bool false]) ?_ rfl ⟨_, rfl, ⟨fun _ => rfl, fun e => by cases e⟩, ?_⟩
            · exact results_c2 (p := 4) (q := 5) (ty := 56) rfl _ _ _ (w.heap.size + 1 + 1) rfl _ (run_loadVar_row w8 _ 56 56 _ (0, 0) _ hB8 Try.underlying56 rfl (by kernel_rfl))
            · exact grown_new (unhide E5).grown g8 (fun q e => by simp at e; omega)
          · obtain ⟨F6, o6, n6, m6⟩ := unhide H5 rfl
            rw [unhide ET rfl] at o6
            have O6 := hide o6
            have N6 := hide n6
            have M6 : Hid (∀ x ∈ F6, x ∈ F) := fun x hx => unhide hS x (m6 x hx)
            have K6 : Hid (∀ c, c < i + 1 → planeB (bwG wd gn C c) (bhG ht gn C c) (nwG wd gn C c) (nhG ht gn C c) (Y.getD c []) = true) := fun c hc => by
              by_cases e9 : c < i
              · exact unhide hK c e9
              · obtain rfl : c = i := by omega
                rw [unhide HP]
                exact unhide HT
            clear o6 n6 m6 H5 hK hS hN ET
            go_wp2
            go_roundw
            case rel => exact ⟨i + 1, F6, by omega, by go_num, E5, O6, N6, M6, K6⟩
            case measure => simp [intOf]; omega
        · obtain rfl : i = Y.length := by omega
          have hbt : b = true := by
            rw [← unhide HKB]
            unfold coefsOkB
            rw [Bool.and_eq_true]
            exact ⟨decide_eq_true (unhide HYN), List.all_eq_true.2 (fun c hc => unhide hK c (by simpa using hc))⟩
          subst hbt
          go_wp2_with (first | (refine load_row rfl 56 _ rfl w2.heap.size rfl (plV X (.slice go gn gcap)) 56 (unhide hE).all _ Try.underlying56 rfl (by rw [plV_size (unhide HSX)]; kernel_rfl) ?_) | (refine store_row rfl 56 _ _ rfl (w.heap.size + 1 + 1) rfl (plV X (.slice go gn gcap)) rfl #[.int .i64 0, .int .i64 0, .int .i64 0, .int .i64 0, .int .i64 0, .int .i64 0, .int .i64 0, .int .i64 0, .int .i64 0, .int .i64 0, .int .i64 0, .int .i64 0, .int .i64 0, .int .i64 0, .int .i64 0, .int .i64 0, .int .i64 0, .int .i64 0, .int .i64 0, .int .i64 0, .int .i64 0, .slice none 0 0] 56 (unhide hE).r (by rw [plV_size (unhide HSX)]; rfl) (by rw [plV_size (unhide HSX)]; kernel_rfl) (plV_one (unhide HOX) rfl) ?_; intro w8 hB8 g8))
          have o8 : OwGr w8 (.slice go gn gcap) (gridsOf wd ht gn C Y) F' := by
            unfold gridsOf
            have := unhide HYN
            rw [← this]
            rw [this]
            have h9 := unhide hO
            rw [this] at h9
            exact okGr.wr h9 (Wr.ofRow (F := [w.heap.size + 1 + 1]) g8 (fun q e => by have e9 := Option.some.inj e; simp [e9])) (fun x hx e => by simp at e; have := (unhide L2 x (unhide hS x hx)).2; omega)
          refine bodyPost_ret (v := .tuple #[.agg (plV X (.slice go gn gcap)), .bool true]) ?_ rfl ⟨_, rfl, ⟨(fun e => by cases e), fun _ => ⟨X, D, _, F', rfl, unhide HF, unhide HD, o8, unhide hN, fun x hx => (unhide L2 x (unhide hS x hx)).1⟩⟩, ?_⟩
          · exact results_c2 (p := 4) (q := 5) (ty := 56) rfl _ _ _ (w.heap.size + 1 + 1) rfl _ (run_loadVar_row w8 _ 56 56 _ (0, 0) _ hB8 Try.underlying56 rfl (by rw [plV_size (unhide HSX)]; kernel_rfl))
          · exact grown_new (unhide hE).grown g8 (fun q e => by simp at e; omega)
    · have hyl : ((Y.length : Int) != (gn : Int)) = true := by rw [bne_iff_ne]; intro e; exact hYn (by exact_mod_cast e)
      obtain rfl : b = false := by
        rw [← unhide HKB]
        unfold coefsOkB
        rw [decide_eq_false hYn, Bool.false_and]
      clear hYn
      go_wp2_with (refine store_row rfl 56 _ _ rfl (w.heap.size + 1 + 1) rfl #[.int .i64 0, .int .i64 0, .int .i64 0, .int .i64 0, .int .i64 0, .int .i64 0, .int .i64 0, .int .i64 0, .int .i64 0, .int .i64 0, .int .i64 0, .int .i64 0, .int .i64 0, .int .i64 0, .int .i64 0, .int .i64 0, .int .i64 0, .int .i64 0, .int .i64 0, .int .i64 0, .int .i64 0, .slice none 0 0] rfl #[.int .i64 0, .int .i64 0, .int .i64 0, .int .i64 0, .int .i64 0, .int .i64 0, .int .i64 0, .int .i64 0, .int .i64 0, .int .i64 0, .int .i64 0, .int .i64 0, .int .i64 0, .int .i64 0, .int .i64 0, .int .i64 0, .int .i64 0, .int .i64 0, .int .i64 0, .int .i64 0, .int .i64 0, .slice none 0 0] 56 (unhide E4).r rfl (by kernel_rfl) pzOne ?_; intro w8 hB8 g8)
      refine bodyPost_ret (v := .tuple #[.agg #[.int .i64 0, .int .i64 0, .int .i64 0, .int .i64 0, .int .i64 0, .int .i64 0, .int .i64 0, .int .i64 0, .int .i64 0, .int .i64 0, .int .i64 0, .int .i64 0, .int .i64 0, .int .i64 0, .int .i64 0, .int .i64 0, .int .i64 0, .int .i64 0, .int .i64 0, .int .i64 0, .int .i64 0, .slice none 0 0], .bool false]) ?_ rfl ⟨_, rfl, ⟨fun _ => rfl, fun e => by cases e⟩, ?_⟩
      · exact results_c2 (p := 4) (q := 5) (ty := 56) rfl _ _ _ (w.heap.size + 1 + 1) rfl _ (run_loadVar_row w8 _ 56 56 _ (0, 0) _ hB8 Try.underlying56 rfl (by kernel_rfl))
      · exact grown_new (unhide E4).grown g8 (fun q e => by simp at e; omega)

end Go.Proofs.Ytdhgfbdanijgaaa

namespace Go.Proofs.Ytdhgfbdanijgaaa
open Go.RowKit Go.Shelf

theorem gridsOf_len (wd ht : Int) (n : Nat) (C : Nat → Nat → Int) (Y : List (List (List Int))) : (gridsOf wd ht n C Y).length = n := gridsTo_len _ _ _ _ _ _
theorem gridsOf_at (wd ht : Int) (n : Nat) (C : Nat → Nat → Int) (Y : List (List (List Int))) (c : Nat) (hc : c < n) : (gridsOf wd ht n C Y).getD c (0, 0, []) = (bwG wd n C c, bhG ht n C c, Y.getD c []) := by
  unfold gridsOf
  rw [gridsTo_at _ _ _ _ _ _ _ hc, if_pos hc]
/-- What is so of coefficients that are ok. -/
theorem ok_dims {p wd ht rs : Int} {n : Nat} {C : Nat → Nat → Int} {Y : List (List (List Int))} (hb : frameB p wd ht rs n C = true) (h : coefsOkB wd ht n C Y = true) : n ≤ 4 ∧ Y.length = n ∧ ∀ c, c < n → bwG wd n C c ≤ 128 ∧ bhG ht n C c ≤ 128 ∧ (Y.getD c []).length = bwG wd n C c * bhG ht n C c ∧ ∀ k, k < (Y.getD c []).length → ((Y.getD c []).getD k []).length = 64 := by
  have hg := geo_of hb
  have h1 := h
  unfold coefsOkB at h1
  rw [Bool.and_eq_true] at h1
  have h2 : Y.length = n := of_decide_eq_true h1.1
  refine ⟨hg.n4, h2, fun c hc => ?_⟩
  obtain ⟨hY, h3, h4⟩ := ok_plane h c hc
  have e : Y.getD c [] = Y[c] := by simp [hY]
  have d := dims_of hg c hc
  rw [e]
  refine ⟨d.bw1.2, d.bh1.2, h3, fun k hk => ?_⟩
  have e2 : Y[c].getD k [] = Y[c][k] := by simp [hk]
  rw [e2]
  exact block_len (h4 k hk)
theorem FixedTo.shape {p wd ht rs : Int} {n : Nat} {C : Nat → Nat → Int} {Y : List (List (List Int))} {base : Nat} {b : Bool} {A : Array Value} {w : World} (h : FixedTo p wd ht rs n C Y base b A w) : A.size = 22 ∧ A.all (·.oneCell') = true := by
  cases b
  · rw [h.1 rfl]
    exact ⟨rfl, pzOne⟩
  · obtain ⟨X, D, gv, F, rfl, hF, _, o, _⟩ := h.2 rfl
    obtain ⟨ao, cap, rfl⟩ := o.form
    exact ⟨plV_size hF.size _, plV_one hF.one rfl⟩

set_option maxRecDepth 100000 in
set_option maxHeartbeats 3200000 in
theorem giveCoefsOk : ImplCoefsOk := by
  intro p wd ht rs ao n cap C v Y w hr hn hY hsz fb b HFB HB
  obtain ⟨W0, hW0⟩ : ∃ W0, (w.alloc (.cells #[.int .i64 p, .int .i64 wd, .int .i64 ht, .int .i64 rs, .slice ao n cap] 38)).alloc (.cells #[v] 44) = W0 := ⟨_, rfl⟩
  have G0 : w.grownBy W0 none := by rw [← hW0]; exact grown_alloc (World.grownBy_alloc _ _ _) _
  have HR := hide (hr.grown G0)
  have HYR := hide (RdR.st (RdR.st (RdI.st .i64)) _ _ _ _ hY G0)
  have HW := hide hW0
  have HG0 := hide G0
  clear hr hY hW0 G0
  go_enter Try.func9, Try.ntmps9
  go_wp2_with fail
  rw [unhide HW]
  clear HW
  refine (fixCoefs p wd ht rs ao n cap C v Y W0 (unhide HR) hn (unhide HYR) fb b HFB HB).mono ?_
  rintro e w1 ⟨A, rfl, hA, g1⟩
  obtain ⟨hs, ho⟩ := hA.shape
  have HSA := hide hs
  have HOA := hide ho
  have HB1 := hide (heap_alloc_new w1 (.cells #[.int .i64 0, .int .i64 0, .int .i64 0, .int .i64 0, .int .i64 0, .int .i64 0, .int .i64 0, .int .i64 0, .int .i64 0, .int .i64 0, .int .i64 0, .int .i64 0, .int .i64 0, .int .i64 0, .int .i64 0, .int .i64 0, .int .i64 0, .int .i64 0, .int .i64 0, .int .i64 0, .int .i64 0, .slice none 0 0] 56))
  clear hA hs ho
  go_wp2_with (refine store_row rfl 56 _ _ rfl w1.heap.size rfl A rfl #[.int .i64 0, .int .i64 0, .int .i64 0, .int .i64 0, .int .i64 0, .int .i64 0, .int .i64 0, .int .i64 0, .int .i64 0, .int .i64 0, .int .i64 0, .int .i64 0, .int .i64 0, .int .i64 0, .int .i64 0, .int .i64 0, .int .i64 0, .int .i64 0, .int .i64 0, .int .i64 0, .int .i64 0, .slice none 0 0] 56 (unhide HB1) (by rw [unhide HSA]; rfl) (by rw [unhide HSA]; kernel_rfl) (unhide HOA) ?_; intro w3 hB3 g3)
  go_ret
  exact ⟨rfl, grown_new (grown_alloc (grown_trans (unhide HG0) g1) (.cells #[.int .i64 0, .int .i64 0, .int .i64 0, .int .i64 0, .int .i64 0, .int .i64 0, .int .i64 0, .int .i64 0, .int .i64 0, .int .i64 0, .int .i64 0, .int .i64 0, .int .i64 0, .int .i64 0, .int .i64 0, .int .i64 0, .int .i64 0, .int .i64 0, .int .i64 0, .int .i64 0, .int .i64 0, .slice none 0 0] 56)) g3 (fun q e => by simp at e; have := (grown_trans (unhide HG0) g1).size; omega)⟩

end Go.Proofs.Ytdhgfbdanijgaaa

namespace Go.Proofs.Ytdhgfbdanijgaaa

/-- A coin or a pair: what it weighs, and how often each coin stands in it. -/
structure Th where
  w : Int
  cs : List Int
  deriving Inhabited

def pairsG : List Th → List Th
  | a :: b :: r => ⟨a.w + b.w, List.zipWith (· + ·) a.cs b.cs⟩ :: pairsG r
  | _ => []
def mergeG : List Th → List Th → List Th
  | [], bs => bs
  | a :: asq, [] => a :: asq
  | a :: asq, b :: bs => if a.w ≤ b.w then a :: mergeG asq (b :: bs) else b :: mergeG (a :: asq) bs
termination_by asq bs => asq.length + bs.length
def thingsG (coins : List Th) : Nat → List Th
  | 0 => coins
  | k + 1 => mergeG coins (pairsG (thingsG coins k))

/-- The sum of a function over the first m of a list. -/
def pre (f : Th → Int) : List Th → Nat → Int
  | _, 0 => 0
  | [], _ => 0
  | x :: xs, m + 1 => f x + pre f xs m
theorem pre_zero (f : Th → Int) (l : List Th) : pre f l 0 = 0 := by cases l <;> rfl
theorem pre_nil (f : Th → Int) (m : Nat) : pre f [] m = 0 := by cases m <;> rfl
theorem pre_cons (f : Th → Int) (x : Th) (l : List Th) (m : Nat) : pre f (x :: l) (m + 1) = f x + pre f l m := rfl

theorem merge_len : ∀ (asq bs : List Th), (mergeG asq bs).length = asq.length + bs.length
  | [], bs => by simp [mergeG]
  | a :: asq, [] => by simp [mergeG]
  | a :: asq, b :: bs => by
    unfold mergeG
    split
    · rw [List.length_cons, merge_len asq (b :: bs)]; simp; omega
    · rw [List.length_cons, merge_len (a :: asq) bs]; simp; omega
termination_by asq bs => asq.length + bs.length
theorem pairs_len : ∀ l : List Th, (pairsG l).length = l.length / 2
  | [] => rfl
  | [a] => by simp [pairsG]
  | a :: b :: r => by
    simp only [pairsG, List.length_cons, pairs_len r]
    omega

/-- The first of what was put together are the first of both. -/
theorem merge_split : ∀ (asq bs : List Th) (m : Nat), m ≤ asq.length + bs.length → ∃ a b, a + b = m ∧ a ≤ asq.length ∧ b ≤ bs.length ∧ ∀ f : Th → Int, pre f (mergeG asq bs) m = pre f asq a + pre f bs b
  | asq, bs, 0, _ => ⟨0, 0, rfl, Nat.zero_le _, Nat.zero_le _, fun f => by simp [pre_zero]⟩
  | [], bs, m + 1, h => ⟨0, m + 1, by omega, Nat.zero_le _, by simpa using h, fun f => by simp [mergeG, pre_zero]⟩
  | a :: asq, [], m + 1, h => ⟨m + 1, 0, by omega, by simpa using h, Nat.zero_le _, fun f => by simp [mergeG, pre_zero]⟩
  | a :: asq, b :: bs, m + 1, h => by
    simp only [List.length_cons] at h
    by_cases hc : a.w ≤ b.w
    · obtain ⟨x, y, e, h1, h2, h3⟩ := merge_split asq (b :: bs) m (by simp; omega)
      refine ⟨x + 1, y, by omega, by simp; omega, h2, fun f => ?_⟩
      rw [mergeG, if_pos hc, pre_cons, pre_cons, h3 f]; omega
    · obtain ⟨x, y, e, h1, h2, h3⟩ := merge_split (a :: asq) bs m (by simp; omega)
      refine ⟨x, y + 1, by omega, h1, by simp; omega, fun f => ?_⟩
      rw [mergeG, if_neg hc, pre_cons, pre_cons, h3 f]; omega
termination_by asq bs => asq.length + bs.length

/-- Rising weights. -/
def Rises : List Th → Prop
  | [] => True
  | x :: xs => (∀ y ∈ xs, x.w ≤ y.w) ∧ Rises xs
theorem merge_mem : ∀ (asq bs : List Th) (x : Th), x ∈ mergeG asq bs → x ∈ asq ∨ x ∈ bs
  | [], bs, x, h => by simp [mergeG] at h; exact .inr h
  | a :: asq, [], x, h => by simp [mergeG] at h; exact .inl (by simpa using h)
  | a :: asq, b :: bs, x, h => by
    rw [mergeG] at h
    split at h
    · rcases List.mem_cons.1 h with rfl | h
      · exact .inl (by simp)
      · rcases merge_mem asq (b :: bs) x h with h | h
        · exact .inl (by simp [h])
        · exact .inr h
    · rcases List.mem_cons.1 h with rfl | h
      · exact .inr (by simp)
      · rcases merge_mem (a :: asq) bs x h with h | h
        · exact .inl h
        · exact .inr (by simp [h])
termination_by asq bs => asq.length + bs.length
theorem merge_rises : ∀ (asq bs : List Th), Rises asq → Rises bs → Rises (mergeG asq bs)
  | [], bs, _, h => by simpa [mergeG] using h
  | a :: asq, [], h, _ => by simpa [mergeG] using h
  | a :: asq, b :: bs, ha, hb => by
    rw [mergeG]
    split
    · rename_i hc
      refine ⟨fun y hy => ?_, merge_rises asq (b :: bs) ha.2 hb⟩
      rcases merge_mem _ _ _ hy with h | h
      · exact ha.1 y h
      · rcases List.mem_cons.1 h with rfl | h
        · exact hc
        · have := hb.1 y h; omega
    · rename_i hc
      refine ⟨fun y hy => ?_, merge_rises (a :: asq) bs ha hb.2⟩
      rcases merge_mem _ _ _ hy with h | h
      · rcases List.mem_cons.1 h with rfl | h
        · omega
        · have := ha.1 y h; omega
      · exact hb.1 y h
termination_by asq bs => asq.length + bs.length
theorem pairs_ge : ∀ (l : List Th) (v : Int), (∀ y ∈ l, v ≤ y.w) → ∀ z ∈ pairsG l, v + v ≤ z.w
  | [], _, _, z, hz => by simp [pairsG] at hz
  | [a], _, _, z, hz => by simp [pairsG] at hz
  | a :: b :: r, v, h, z, hz => by
    simp only [pairsG, List.mem_cons] at hz
    rcases hz with rfl | hz
    · have h1 := h a (by simp)
      have h2 := h b (by simp)
      show v + v ≤ a.w + b.w
      omega
    · exact pairs_ge r v (fun y hy => h y (by simp [hy])) z hz
theorem pairs_rises : ∀ l : List Th, Rises l → Rises (pairsG l)
  | [], _ => trivial
  | [a], _ => trivial
  | a :: b :: r, h => by
    refine ⟨fun y hy => ?_, pairs_rises r h.2.2⟩
    have h1 := pairs_ge r b.w h.2.1 y hy
    have h2 := h.1 b (by simp)
    show a.w + b.w ≤ y.w
    omega
theorem things_rises {coins : List Th} (h : Rises coins) : ∀ k, Rises (thingsG coins k)
  | 0 => h
  | k + 1 => merge_rises _ _ h (pairs_rises _ (things_rises h k))

def wOf (t : Th) : Int := t.w
theorem pre_step {l : List Th} {v : Int} (hv : ∀ y ∈ l, v ≤ y.w) : ∀ {m : Nat}, m < l.length → v + pre wOf l m ≤ pre wOf l (m + 1) := by
  induction l with
  | nil => intro m h; simp at h
  | cons x xs ih =>
    intro m h
    cases m with
    | zero =>
      have := hv x (by simp)
      simp only [pre_cons, pre_zero, wOf]; omega
    | succ m =>
      have := ih (fun y hy => hv y (by simp [hy])) (m := m) (by simpa using h)
      simp only [pre_cons]; omega
/-- No other choice of so many out of both weighs less. -/
theorem merge_least : ∀ (asq bs : List Th), Rises asq → Rises bs → ∀ (a b : Nat), a ≤ asq.length → b ≤ bs.length → pre wOf (mergeG asq bs) (a + b) ≤ pre wOf asq a + pre wOf bs b
  | [], bs, _, _, a, b, ha, _ => by
    obtain rfl : a = 0 := by simpa using ha
    simp [mergeG, pre_zero]
  | x :: asq, [], _, _, a, b, _, hb => by
    obtain rfl : b = 0 := by simpa using hb
    simp [mergeG, pre_zero]
  | x :: asq, y :: bs, hA, hB, a, b, ha, hb => by
    rw [mergeG]
    split
    · rename_i hc
      cases a with
      | succ a =>
        have h := merge_least asq (y :: bs) hA.2 hB a b (by simpa using ha) hb
        have e : a + 1 + b = (a + b) + 1 := by omega
        rw [e, pre_cons, pre_cons]; omega
      | zero =>
        cases b with
        | zero => simp [pre_zero]
        | succ b =>
          have h := merge_least asq (y :: bs) hA.2 hB 0 b (Nat.zero_le _) (by omega)
          have hs := pre_step (l := y :: bs) (v := x.w) (fun z hz => by
            rcases List.mem_cons.1 hz with rfl | hz
            · exact hc
            · have := hB.1 z hz; omega) (m := b) (by omega)
          have e : 0 + (b + 1) = (0 + b) + 1 := by omega
          rw [e, pre_cons, pre_zero]
          rw [pre_zero] at h
          simp only [wOf] at *; omega
    · rename_i hc
      cases b with
      | succ b =>
        have h := merge_least (x :: asq) bs hA hB.2 a b ha (by simpa using hb)
        have e : a + (b + 1) = (a + b) + 1 := by omega
        rw [e, pre_cons, pre_cons]; omega
      | zero =>
        cases a with
        | zero => simp [pre_zero]
        | succ a =>
          have h := merge_least (x :: asq) bs hA hB.2 a 0 (by omega) (Nat.zero_le _)
          have hs := pre_step (l := x :: asq) (v := y.w) (fun z hz => by
            rcases List.mem_cons.1 hz with rfl | hz
            · omega
            · have := hA.1 z hz; omega) (m := a) (by omega)
          simp only [Nat.add_zero, pre_zero] at h ⊢
          have e := pre_cons wOf y (mergeG (x :: asq) bs) a
          have ew : wOf y = y.w := rfl
          rw [e]
          omega
termination_by asq bs => asq.length + bs.length

theorem pairs_pre (f : Th → Int) (Q : Th → Prop) (hf : ∀ a b : Th, Q a → Q b → f ⟨a.w + b.w, List.zipWith (· + ·) a.cs b.cs⟩ = f a + f b) : ∀ (l : List Th) (p : Nat), (∀ a ∈ l, Q a) → 2 * p ≤ l.length → pre f (pairsG l) p = pre f l (2 * p)
  | l, 0, _, _ => by simp [pre_zero]
  | [], p + 1, _, h => by simp at h
  | [a], p + 1, _, h => by simp at h; omega
  | a :: b :: r, p + 1, hq, h => by
    have ih := pairs_pre f Q hf r p (fun x hx => hq x (by simp [hx])) (by simp at h; omega)
    have e : 2 * (p + 1) = (2 * p) + 1 + 1 := by omega
    rw [pairsG, pre_cons, e, pre_cons, pre_cons, ih, hf a b (hq a (by simp)) (hq b (by simp))]; omega

/-- How many are chosen of so many, and what the chosen ones of a list weigh. -/
def cnt : Nat → (Nat → Bool) → Nat
  | 0, _ => 0
  | n + 1, s => (if s 0 then 1 else 0) + cnt n (fun i => s (i + 1))
def wt : List Th → (Nat → Bool) → Int
  | [], _ => 0
  | x :: xs, s => (if s 0 then x.w else 0) + wt xs (fun i => s (i + 1))
theorem cnt_le : ∀ (n : Nat) (s : Nat → Bool), cnt n s ≤ n
  | 0, _ => Nat.le_refl _
  | n + 1, s => by
    have := cnt_le n (fun i => s (i + 1))
    unfold cnt; split <;> omega
theorem wt_nonneg : ∀ (l : List Th) (s : Nat → Bool), (∀ y ∈ l, 0 ≤ y.w) → 0 ≤ wt l s
  | [], _, _ => Int.le_refl _
  | x :: xs, s, h => by
    have h1 := wt_nonneg xs (fun i => s (i + 1)) (fun y hy => h y (by simp [hy]))
    have h2 := h x (by simp)
    unfold wt; split <;> omega
theorem sel_least : ∀ (l : List Th) (s : Nat → Bool) (m : Nat), Rises l → (∀ y ∈ l, 0 ≤ y.w) → m ≤ cnt l.length s → pre wOf l m ≤ wt l s
  | l, s, 0, _, h, _ => by rw [pre_zero]; exact wt_nonneg l s h
  | [], s, m + 1, _, _, h => by simp [cnt] at h
  | x :: xs, s, m + 1, hr, h, hm => by
    rw [List.length_cons] at hm
    unfold cnt at hm
    unfold wt
    have hx : ∀ y ∈ xs, 0 ≤ y.w := fun y hy => h y (by simp [hy])
    by_cases hs : s 0 = true
    · rw [if_pos hs] at hm ⊢
      have ih := sel_least xs (fun i => s (i + 1)) m hr.2 hx (by omega)
      rw [pre_cons]
      show x.w + _ ≤ _
      omega
    · rw [if_neg hs] at hm ⊢
      have ih := sel_least xs (fun i => s (i + 1)) (m + 1) hr.2 hx (by omega)
      have hl := cnt_le xs.length (fun i => s (i + 1))
      have hp := pre_step (l := xs) (v := x.w) hr.1 (m := m) (by omega)
      rw [pre_cons]
      show x.w + _ ≤ _
      omega

/-- A choice at each of k widths (1, 2, 4 ..): how wide it is, what it weighs. -/
def wideS (n : Nat) (S : Nat → Nat → Bool) : Nat → Nat
  | 0 => 0
  | k + 1 => wideS n S k + 2 ^ k * cnt n (S k)
def wtS (l : List Th) (S : Nat → Nat → Bool) : Nat → Int
  | 0 => 0
  | k + 1 => wtS l S k + wt l (S k)
theorem wtS_nonneg (l : List Th) (S : Nat → Nat → Bool) (h : ∀ y ∈ l, 0 ≤ y.w) : ∀ k, 0 ≤ wtS l S k
  | 0 => Int.le_refl _
  | k + 1 => by
    have := wtS_nonneg l S h k
    have := wt_nonneg l (S k) h
    unfold wtS; omega

/-- The first things weigh no more than any choice that is asq wide. -/
theorem things_least {coins : List Th} (hr : Rises coins) (hp : ∀ y ∈ coins, 0 ≤ y.w) : ∀ (k m : Nat) (S : Nat → Nat → Bool), m * 2 ^ k ≤ wideS coins.length S (k + 1) → m ≤ (thingsG coins k).length ∧ pre wOf (thingsG coins k) m ≤ wtS coins S (k + 1)
  | 0, m, S, h => by
    simp only [wideS, Nat.pow_zero, Nat.mul_one, Nat.one_mul, Nat.zero_add] at h
    have h1 := cnt_le coins.length (S 0)
    have h2 := sel_least coins (S 0) m hr hp h
    refine ⟨by show m ≤ coins.length; omega, ?_⟩
    show pre wOf coins m ≤ 0 + wt coins (S 0)
    omega
  | k + 1, m, S, h => by
    have hw : wideS coins.length S (k + 2) = wideS coins.length S (k + 1) + 2 ^ (k + 1) * cnt coins.length (S (k + 1)) := rfl
    have hc := cnt_le coins.length (S (k + 1))
    have hs := sel_least coins (S (k + 1)) (cnt coins.length (S (k + 1))) hr hp (Nat.le_refl _)
    have hn := wtS_nonneg coins S hp (k + 1)
    have hL : (thingsG coins (k + 1)).length = coins.length + (thingsG coins k).length / 2 := by rw [thingsG, merge_len, pairs_len]
    have hwt : wtS coins S (k + 2) = wtS coins S (k + 1) + wt coins (S (k + 1)) := rfl
    rw [hw] at h
    generalize hcc : cnt coins.length (S (k + 1)) = c at *
    have hrp := pairs_rises _ (things_rises hr k)
    by_cases hm : m ≤ c
    · have h1 := merge_least coins (pairsG (thingsG coins k)) hr hrp m 0 (by omega) (Nat.zero_le _)
      have h2 := sel_least coins (S (k + 1)) m hr hp (by omega)
      rw [Nat.add_zero, pre_zero] at h1
      refine ⟨by omega, ?_⟩
      rw [hwt, thingsG]
      omega
    · obtain ⟨d, rfl⟩ : ∃ d, m = c + d := ⟨m - c, by omega⟩
      have e1 : (c + d) * 2 ^ (k + 1) = 2 ^ (k + 1) * c + d * 2 ^ (k + 1) := by rw [Nat.add_mul, Nat.mul_comm c]
      have e2 : (2 * d) * 2 ^ k = d * 2 ^ (k + 1) := by rw [Nat.pow_succ, Nat.mul_comm 2 d, Nat.mul_assoc, Nat.mul_comm 2]
      obtain ⟨h1, h2⟩ := things_least hr hp k (2 * d) S (by omega)
      have h3 := merge_least coins (pairsG (thingsG coins k)) hr hrp c d (by omega) (by rw [pairs_len]; omega)
      have h4 := pairs_pre wOf (fun _ => True) (fun _ _ _ _ => rfl) (thingsG coins k) d (fun _ _ => trivial) h1
      refine ⟨by omega, ?_⟩
      rw [hwt, thingsG]
      omega

end Go.Proofs.Ytdhgfbdanijgaaa
