/-
  CutBImpl, ToneTile2, JoinBImpl, ToneCrop, TonePad, ToneSpan.
-/
import Derived.Test.YtkefpjbdkhifhaaMBd

namespace Go.Proofs.Ytkefpjbdkhifhaa
open Go.RowKit Go.Shelf

attribute [local go_sem] Oper.semAt_some

set_option maxRecDepth 100000 in
set_option maxHeartbeats 6400000 in
theorem implCutBlocks (ao : Option Addr) (n cap : Nat) (zs : List Int) (w h : Int) (W : World) (hr : Rd .i64 W ao n zs) (hn : n ≤ 9223372036854775807) (L : List (List Int)) (HL : Hid (cutG zs w h = L)) :
    Calls Try.prog 22 #[.slice ao n cap, .int .i64 w, .int .i64 h] W fun e W' => (∃ v F, e = .returned v ∧ Ow2 W' v L F ∧ F.Nodup ∧ ∀ x ∈ F, W.heap.size ≤ x) ∧ W.grownBy W' none := by
  have HR := hide hr
  have HNL := hide hr.1
  clear hr
  obtain ⟨pb, HP⟩ : ∃ y, Hid (planeB zs w h = y) := ⟨_, rfl⟩
  refine (callsIn_wide (n := 0)).1 ?_
  refine callsIn_of_wp_marks Try.func22 rfl trivial ?_ rfl
  refine wpIn_wide.2 ?_
  simp only [Try.ntmps22, List.size_toArray, List.length_cons, List.length_nil, Nat.reduceAdd, Nat.reduceSub, Array.replicate_succ, Array.replicate_zero, List.push_toArray, List.append_toArray, List.nil_append, List.cons_append]
  go_wp2_with fail
  refine (fixTones ao n cap zs w h W (unhide HR) hn pb HP).mono ?_
  rintro e w1 ⟨⟨v, rfl, hf⟩, g1⟩
  have HG1 := hide g1
  clear g1
  rcases hf with ⟨rfl, wN, hN, g, m, rfl, rfl, hm, rfl, hB, hge⟩ | ⟨rfl, a, c, so, sn, sc, rfl, ha, hc⟩
  · have hpl := plane_of (unhide HP)
    have HM := hide hm
    have hmn : m = n := by
      have h1 := hpl.2.2.1
      rw [unhide HNL, ← Int.natCast_mul, hm] at h1
      omega
    have HMN : Hid (zs.length = m) := by unfold Hid; rw [unhide HNL, hmn]
    have hbd : (1 ≤ wN ∧ wN ≤ 1024) ∧ (1 ≤ hN ∧ hN ≤ 1024) := by omega
    have HV := hide hpl.2.2.2.2
    obtain ⟨W1, hW1⟩ : ∃ W1, w1.alloc (.cells #[.int .i64 (wN : Int), .int .i64 (hN : Int), .slice (some ⟨g, 0, none⟩) m m] 57) = W1 := ⟨_, rfl⟩
    have GA : w1.grownBy W1 none := by rw [← hW1]; exact World.grownBy_alloc _ _ _
    have HG2 : Hid (W.grownBy W1 none) := grown_trans (unhide HG1) GA
    have HB1 := hide (hB.grown GA)
    have p7 : Hid (W1.heap[w1.heap.size]? = some (.cells #[.int .i64 (wN : Int), .int .i64 (hN : Int), .slice (some ⟨g, 0, none⟩) m m] 57 (0, 0))) := by rw [← hW1]; exact heap_alloc_new w1 _
    have HGW : Hid (W.heap.size ≤ g ∧ g < w1.heap.size) := ⟨hge, hB.lt⟩
    obtain ⟨bw, HBW⟩ : ∃ k : Nat, Hid (wN / 8 = k) := ⟨_, rfl⟩
    obtain ⟨bh, HBH⟩ : ∃ k : Nat, Hid (hN / 8 = k) := ⟨_, rfl⟩
    have f1 : IntKind.i64.wrap ((wN : Int).tdiv 8) = (bw : Int) := by rw [Int.tdiv_eq_ediv_of_nonneg (by omega), i64_in _ (by omega)]; have := unhide HBW; omega
    have f2 : IntKind.i64.wrap ((hN : Int).tdiv 8) = (bh : Int) := by rw [Int.tdiv_eq_ediv_of_nonneg (by omega), i64_in _ (by omega)]; have := unhide HBH; omega
    have e1 : (wN : Int).tmod 8 = (wN : Int) % 8 := Int.tmod_eq_emod_of_nonneg (by omega)
    have e2 : (hN : Int).tmod 8 = (hN : Int) % 8 := Int.tmod_eq_emod_of_nonneg (by omega)
    obtain ⟨tb, HTB⟩ : ∃ y, Hid ((decide ((wN : Int).tmod 8 = 0) && decide ((hN : Int).tmod 8 = 0)) = y) := ⟨_, rfl⟩
    have hTB := unhide HTB
    rw [e1, e2] at hTB
    have HTD := hide hTB
    have HTI := hide (tiled (wN : Int) (hN : Int) tb HTB)
    rw [f1, f2] at HTI
    have hbb : bw ≤ 128 ∧ bh ≤ 128 := by have := unhide HBW; have := unhide HBH; omega
    have c0 : (w1.alloc (.cells #[.int .i64 (wN : Int), .int .i64 (hN : Int), .slice (some ⟨g, 0, none⟩) m m] 57)).cell? ⟨w1.heap.size, 0, none⟩ = some (.int .i64 (wN : Int)) := by rw [hW1, cell_of_row W1 _ 0 _ _ (0, 0) (unhide p7)]; rfl
    have c1 : (w1.alloc (.cells #[.int .i64 (wN : Int), .int .i64 (hN : Int), .slice (some ⟨g, 0, none⟩) m m] 57)).cell? ⟨w1.heap.size, 1, none⟩ = some (.int .i64 (hN : Int)) := by rw [hW1, cell_of_row W1 _ 1 _ _ (0, 0) (unhide p7)]; rfl
    have HW1 := hide hW1
    clear hW1 hpl hB hge GA e1 e2 hTB f1 f2 hm hmn
    go_wp2_with fail
    rw [unhide HW1]
    refine (unhide HTI W1).mono ?_
    rintro e w2 ⟨rfl, g2⟩
    obtain ⟨W3, hW3⟩ : ∃ W3, w2.alloc (.cells #[.int .i64 (bw : Int), .int .i64 (bh : Int)] 48) = W3 := ⟨_, rfl⟩
    have GA : W1.grownBy W3 none := by rw [← hW3]; exact grown_alloc g2 _
    have HG3 : Hid (W.grownBy W3 none) := grown_trans (unhide HG2) GA
    have HB3 := hide ((unhide HB1).grown GA)
    have q7 := hide (grown_atG GA (unhide p7) (by simp))
    have q9 : Hid (W3.heap[w2.heap.size]? = some (.cells #[.int .i64 (bw : Int), .int .i64 (bh : Int)] 48 (0, 0))) := by rw [← hW3]; exact heap_alloc_new w2 _
    have HW3 := hide hW3
    have HS7 : Hid (g < w1.heap.size ∧ w1.heap.size < W3.heap.size ∧ w2.heap.size < W3.heap.size ∧ W.heap.size ≤ g) := ⟨(unhide HGW).2, (Array.getElem?_eq_some_iff.1 (unhide q7)).1, (Array.getElem?_eq_some_iff.1 (unhide q9)).1, (unhide HGW).1⟩
    clear hW3 g2 GA HW1 c0 c1 HB1 p7 HG2 HTI
    generalize w1.heap.size = s7 at *
    cases tb with
    | false =>
      obtain rfl : L = [] := by
        rw [← unhide HL, cutG, if_neg]
        have h1 := unhide HTD
        intro e
        simp only [Bool.and_eq_true, decide_eq_true_eq, Bool.and_eq_false_iff, decide_eq_false_iff_not] at e h1
        omega
      go_wp2
      rw [unhide HW3]
      exact ⟨_, results_tmp rfl _ _ _, ⟨_, [], rfl, OwR.nil _ _ _, by simp, fun x hx => by simp at hx⟩, unhide HG3⟩
    | true =>
      have h1 := unhide HTD
      simp only [Bool.and_eq_true, decide_eq_true_eq] at h1
      have HEQ : Hid (wN = 8 * bw ∧ hN = 8 * bh ∧ 1 ≤ bw ∧ 1 ≤ bh) := by have := unhide HBW; have := unhide HBH; unfold Hid; omega
      have HLG : Hid (cutL zs wN hN = L) := by
        unfold Hid
        rw [← unhide HL, cutG, unhide HP, decide_eq_true h1.1, decide_eq_true h1.2]
        rfl
      have HLL : Hid (L.length = bh * bw) := by unfold Hid; rw [← unhide HLG, ← unhide HBW, ← unhide HBH]; simp [cutL]
      obtain ⟨nb, HNB⟩ : ∃ k : Nat, Hid (bw * bh = k) := ⟨_, rfl⟩
      have hnb : nb ≤ 16384 := by rw [← unhide HNB]; exact Nat.mul_le_mul hbb.1 hbb.2
      have hnI : (bw : Int) * (bh : Int) = (nb : Int) := by rw [← unhide HNB]; push_cast; rfl
      have HNI := hide hnI
      have d0 : (w2.alloc (.cells #[.int .i64 (bw : Int), .int .i64 (bh : Int)] 48)).cell? ⟨w2.heap.size, 0, none⟩ = some (.int .i64 (bw : Int)) := by rw [unhide HW3, cell_of_row W3 _ 0 _ _ (0, 0) (unhide q9)]; rfl
      have d1 : (w2.alloc (.cells #[.int .i64 (bw : Int), .int .i64 (bh : Int)] 48)).cell? ⟨w2.heap.size, 1, none⟩ = some (.int .i64 (bh : Int)) := by rw [unhide HW3, cell_of_row W3 _ 1 _ _ (0, 0) (unhide q9)]; rfl
      obtain ⟨i0, hi, hz0, hz1, hz2⟩ := info_parts infoIntSS
      have HI := hide hi
      have HZ0 := hide hz0
      have HZ1 := hide hz1
      have HZ2 := hide hz2
      clear h1 hnI hi hz0 hz1 hz2 HL HP
      go_wp2_with fail
      rw [unhide HW3]
      refine (areaCount (bw : Int) (bh : Int) (by omega) (by omega) W3).mono ?_
      rintro e w4 ⟨rfl, g4⟩
      rw [unhide HNI]
      have G4 := hide g4
      clear g4 d0 d1 HW3
      generalize w2.heap.size = s9 at *
      have r9 := hide (grown_atG (unhide G4) (unhide q9) (by simp))
      have t0 : w4.cell? ⟨s9, 0, none⟩ = some (.int .i64 (bw : Int)) := by rw [cell_of_row w4 _ 0 _ _ (0, 0) (unhide r9)]; rfl
      go_wp2_with (at_make; refine wpList_make_own _ rfl _ _ 33 rfl 0 24 i0 (.slice none 0 0) 1 Try.underlying33 (unhide HI) (unhide HZ0) (unhide HZ1) .i64 .i64 _ nb rfl rfl rfl (by rw [unhide HZ2]; omega) (by unfold maxLen; omega) (Nat.zero_le _) ?_)
      intro w5 hown g5
      have HO5 : Hid (Ow2 w5 (.slice (some ⟨w4.heap.size, 0, none⟩) 0 nb) (L.take 0) [w4.heap.size]) := OwR.none16 _ hown
      have G5 := hide (grown_trans (unhide G4) g5)
      have HS4 := hide (unhide G4).size
      clear hown g5 t0 G4 r9
      generalize w4.heap.size = R at *
      obtain ⟨W6, hW6⟩ : ∃ W6, w5.alloc (.cells #[.slice (some ⟨R, 0, none⟩) 0 nb] 33) = W6 := ⟨_, rfl⟩
      have GA : w5.grownBy W6 none := by rw [← hW6]; exact World.grownBy_alloc _ _ _
      have HO6 := hide (ok2.keep (unhide HO5) GA)
      have HRL : Hid (R < w5.heap.size) := ok2.lt _ _ _ _ (unhide HO5) R (by simp)
      have G6 := hide (grown_trans (unhide G5) GA)
      have HB6 := hide ((unhide HB3).grown (unhide G6))
      have p7 := hide (grown_atG (unhide G6) (unhide q7) (by simp))
      have p9 := hide (grown_atG (unhide G6) (unhide q9) (by simp))
      have pb : Hid (W6.heap[w5.heap.size]? = some (.cells #[.slice (some ⟨R, 0, none⟩) 0 nb] 33 (0, 0))) := by rw [← hW6]; exact heap_alloc_new w5 _
      have d0 : (w5.alloc (.cells #[.slice (some ⟨R, 0, none⟩) 0 nb] 33)).cell? ⟨s9, 0, none⟩ = some (.int .i64 (bw : Int)) := by rw [hW6, cell_of_row W6 _ 0 _ _ (0, 0) (unhide p9)]; rfl
      have d1 : (w5.alloc (.cells #[.slice (some ⟨R, 0, none⟩) 0 nb] 33)).cell? ⟨s9, 1, none⟩ = some (.int .i64 (bh : Int)) := by rw [hW6, cell_of_row W6 _ 1 _ _ (0, 0) (unhide p9)]; rfl
      have HW6 := hide hW6
      clear hW6 GA HO5 q7 q9 G5 HB3
      go_wp2_with fail
      rw [unhide HW6]
      generalize hob : w5.heap.size = ob at *
      clear hob HW6 d0 d1
      refine (callsIn_wide.1 (spots_in Fence.wide 0 trivial rfl _ _ _)).mono ?_
      rintro e w' ⟨rfl, rfl⟩
      obtain ⟨w8, hw8⟩ : ∃ w8, W6.alloc (.cells #[.int .i64 (bw : Int), .int .i64 (bh : Int)] 48) = w8 := ⟨_, rfl⟩
      have g8 : W6.grownBy w8 none := by rw [← hw8]; exact World.grownBy_alloc _ _ _
      have s8 : w8.heap.size = W6.heap.size + 1 := by rw [← hw8]; simp
      have BA8 : Hid (w8.heap[W6.heap.size]? = some (.cells #[.int .i64 (bw : Int), .int .i64 (bh : Int)] 48 (0, 0))) := by rw [← hw8]; exact heap_alloc_new _ _
      rw [hw8]
      have G8 := hide (grown_trans (unhide G6) g8)
      have HB8 := hide ((unhide HB6).grown g8)
      have HO8 := hide (ok2.keep (unhide HO6) g8)
      have x7 := hide (grown_atG g8 (unhide p7) (by simp))
      have xb := hide (grown_atG g8 (unhide pb) (by simp))
      have HS8 := hide s8
      have HLT : Hid (ob < W6.heap.size ∧ R < ob ∧ W3.heap.size ≤ R) := ⟨(Array.getElem?_eq_some_iff.1 (unhide pb)).1, unhide HRL, unhide HS4⟩
      obtain ⟨Z, HZ⟩ : ∃ Z, Hid (tq (List.replicate 64 0) = Z) := ⟨_, rfl⟩
      have HZS : Hid (Z.size = 64) := by unfold Hid; rw [← unhide HZ, tq_size]; rfl
      have hz : (#[.int .u16 0, .int .u16 0, .int .u16 0, .int .u16 0, .int .u16 0, .int .u16 0, .int .u16 0, .int .u16 0, .int .u16 0, .int .u16 0, .int .u16 0, .int .u16 0, .int .u16 0, .int .u16 0, .int .u16 0, .int .u16 0, .int .u16 0, .int .u16 0, .int .u16 0, .int .u16 0, .int .u16 0, .int .u16 0, .int .u16 0, .int .u16 0, .int .u16 0, .int .u16 0, .int .u16 0, .int .u16 0, .int .u16 0, .int .u16 0, .int .u16 0, .int .u16 0, .int .u16 0, .int .u16 0, .int .u16 0, .int .u16 0, .int .u16 0, .int .u16 0, .int .u16 0, .int .u16 0, .int .u16 0, .int .u16 0, .int .u16 0, .int .u16 0, .int .u16 0, .int .u16 0, .int .u16 0, .int .u16 0, .int .u16 0, .int .u16 0, .int .u16 0, .int .u16 0, .int .u16 0, .int .u16 0, .int .u16 0, .int .u16 0, .int .u16 0, .int .u16 0, .int .u16 0, .int .u16 0, .int .u16 0, .int .u16 0, .int .u16 0, .int .u16 0] : Array Value) = Z := by rw [← unhide HZ]; exact tq_z.symm
      clear hw8 g8 s8 HB6 HO6 p7 p9 pb G6 HRL HS4
      go_wp2
      refine (wpIn_wide (n := 0)).1 ?_
      refine rangeFunc_news (gf := 82) (lb := #[.pointer (some ⟨W6.heap.size, 0, none⟩)]) (O := fun k => k = ob ∨ k = R) rfl (enters_of Try.func82 (by kernel_rfl) rfl) (fun k hk => by have := unhide HLT; have := unhide HS8; omega)
        (spots_news W6.heap.size bw bh (by omega) (by omega) _ w8 (unhide BA8) (fun e => by have := unhide HLT; omega)) (fun _ => rfl)
        (fun l pre Wk => Wk.heap[ob]? = some (.cells #[.slice (some ⟨R, 0, none⟩) (L.take pre.length).length nb] 33 (0, 0)) ∧ ∃ F, Ow2 Wk (.slice (some ⟨R, 0, none⟩) (L.take pre.length).length nb) (L.take pre.length) F ∧ F.Nodup ∧ (∀ x ∈ F, x = R ∨ w8.heap.size + 2 ≤ x) ∧ l ∉ F ∧ l ≠ ob)
        (fun l pre A A' h hk => ⟨(hk ob ((Array.getElem?_eq_some_iff.1 h.1).1) (fun e => by obtain ⟨F, h2⟩ := h.2; exact h2.2.2.2.2 e.symm)).trans h.1, by
          obtain ⟨F, h2, h3, h4, h5, h6⟩ := h.2
          exact ⟨F, ok2.same _ _ _ _ _ h2 (fun x hx => hk x (ok2.lt _ _ _ _ h2 x hx) (fun e => h5 (by rw [← e]; exact hx))), h3, h4, h5, h6⟩⟩)
        (fun l hl => ⟨unhide xb, [R], unhide HO8, by simp, fun x hx => by simp at hx; exact .inl hx, fun e => by simp at e; have := unhide HLT; have := unhide HS8; omega, fun e => by have := unhide HLT; have := unhide HS8; omega⟩) ?a1 ?assign ?body ?done
      case assign =>
        intro l' mm x Wa K hK
        gi_wp2
        exact hK
      case body =>
        intro l' mm pre x Wa hl1 hl2 hI hb hlen
        obtain ⟨hk1, hk2, hk3⟩ := spot_num hlen
        obtain ⟨y, xx⟩ := x
        dsimp only at hk1 hk2 hk3 ⊢
        obtain ⟨hob, F, hOw, hFN, hFL, hlF, hlo⟩ := hI
        have lt := unhide HLT
        have s8 := unhide HS8
        have hs7 := unhide HS7
        have y7 := (hb.block s7 (by omega) (fun e => by omega)).trans (unhide x7)
        have u0 : Wa.cell? ⟨s7, 0, none⟩ = some (.int .i64 (wN : Int)) := by rw [cell_of_row Wa _ 0 _ _ (0, 0) y7]; rfl
        have u1 : Wa.cell? ⟨s7, 1, none⟩ = some (.int .i64 (hN : Int)) := by rw [cell_of_row Wa _ 1 _ _ (0, 0) y7]; rfl
        have u2 : Wa.cell? ⟨s7, 2, none⟩ = some (.slice (some ⟨g, 0, none⟩) m m) := by rw [cell_of_row Wa _ 2 _ _ (0, 0) y7]; rfl
        have HBa : Hid (Blk .u16 73 Wa g zs) := (unhide HB8).same (hb.block g (by omega) (fun e => by omega))
        have hcl : pre.length < bh * bw := by
          have := row_end (w := bw) hk2
          omega
        obtain ⟨T, HTT⟩ : ∃ T, Hid (cutF zs wN pre.length = T) := ⟨_, rfl⟩
        have HTL : Hid (T.length = 64) := by rw [← unhide HTT]; exact cutF_len _ _ _
        have HTS : Hid ((tq T).size = 64) := by unfold Hid; rw [tq_size]; exact unhide HTL
        have HTA : Hid (∀ i, i < 64 → T.getD i 0 = zs.getD ((8 * y + i / 8) * wN + 8 * xx + i % 8) 0) := fun i hi => by
          have h1 : pre.length / bw = y := by rw [← hk1, Nat.add_comm, Nat.add_mul_div_right _ _ (by omega), Nat.div_eq_of_lt hk3, Nat.zero_add]
          have h2 : pre.length % bw = xx := by rw [← hk1, Nat.add_comm, Nat.add_mul_mod_self_right, Nat.mod_eq_of_lt hk3]
          rw [← unhide HTT, cutF, unhide HBW, h1, h2]
          simp [hi]
        have HTV : Hid (∀ x ∈ T, 0 ≤ x ∧ x ≤ 4095) := fun v hv => by
          rw [← unhide HTT, cutF] at hv
          obtain ⟨i, _, rfl⟩ := List.mem_map.1 hv
          generalize (8 * (pre.length / (wN / 8)) + i / 8) * wN + 8 * (pre.length % (wN / 8)) + i % 8 = j
          by_cases hj : j < zs.length
          · have e : zs.getD j 0 = zs[j] := by simp [hj]
            rw [e]
            exact unhide HV _ (List.getElem_mem hj)
          · have e : zs.getD j 0 = 0 := by rw [List.getD_eq_getElem?_getD, List.getElem?_eq_none (by omega)]; rfl
            rw [e]
            omega
        have HNX : Hid (L.take pre.length ++ [T] = L.take (pre.length + 1)) := by
          unfold Hid
          rw [← unhide HLG, ← unhide HTT]
          exact cutL_take zs wN hN pre.length (by rw [unhide HBW, unhide HBH]; exact hcl)
        have hn1 : (pre ++ [(y, xx)]).length = pre.length + 1 := by simp
        rw [hn1]
        have HROOM : Hid ((L.take pre.length).length + 1 ≤ nb) := by unfold Hid; rw [List.length_take, unhide HLL, ← unhide HNB, Nat.mul_comm bw bh]; omega
        obtain ⟨L0, HL0⟩ : ∃ X, Hid (L.take pre.length = X) := ⟨_, rfl⟩
        obtain ⟨L1, HL1⟩ : ∃ X, Hid (L.take (pre.length + 1) = X) := ⟨_, rfl⟩
        rw [unhide HL0, unhide HL1] at HNX
        rw [unhide HL0] at HROOM hob hOw
        rw [unhide HL1]
        have HOB := hide hob
        have HOW := hide hOw
        have HFN := hide hFN
        have HFL := hide hFL
        have HLF := hide hlF
        have HBB := hide hb
        have hrr : 8 * y + 8 ≤ hN := by have := unhide HEQ; omega
        have hcc : 8 * xx + 8 ≤ wN := by have := unhide HEQ; omega
        clear hob hOw hFN hFL hlF hb hlen hk1 hn1 y7 hcl
        gi_wp2_with fail
        refine ⟨trivial, fun h => by simp [Fence.wide] at h, (CallsIn.inRound l' (callsIn_wide.2 (tileAt wN hN g m y xx zs (by omega) (by omega) hrr hcc HM Wa (unhide HBa) (unhide HMN) T HTL HTA))).mono ?_⟩
        rintro e w10 ⟨rfl, g10⟩
        have G10 := hide g10
        have HB14 := hide (heap_alloc_new w10 (.cells Z 75))
        have HZN := hide (World.grownBy_alloc w10 (.cells Z 75) none)
        clear g10
        gi_wp2_with ((refine store_rowR rfl 75 _ _ rfl w10.heap.size rfl (tq T) rfl Z 75 (unhide HB14) (by rw [unhide HZS, unhide HTS]) (by rw [unhide HTS]; kernel_rfl) (tq_one _) ?_; intro w11 hB11 g11))
        have G11 : Hid (Wa.grownBy w11 none) := grown_new (grown_trans (unhide G10) (unhide HZN)) g11 (fun k e => by simp at e; have := (unhide G10).size; omega)
        have HT11 : Hid (Blk .u16 75 w11 w10.heap.size T) := hB11
        have HS14 : Hid (Wa.heap.size ≤ w10.heap.size) := (unhide G10).size
        have zb := hide (grown_atG (unhide G11) (unhide HOB) (by simp))
        have HO11 := hide (ok2.keep (unhide HOW) (unhide G11))
        clear hB11 g11 HB14 HZN G10 HOB u0 u1 u2
        generalize w10.heap.size = s14 at *
        try simp only [Act.put]
        have cb : Hid (w11.cell? ⟨ob, 0, none⟩ = some (.slice (some ⟨R, 0, none⟩) L0.length nb)) := by unfold Hid; rw [cell_of_row w11 _ 0 _ _ (0, 0) (unhide zb)]; rfl
        refine wpIn_rawT 20 (fun W => W.cell? ⟨ob, 0, none⟩ = some (.slice (some ⟨R, 0, none⟩) L0.length nb)) [true, true, false, false, false, false] (by kernel_rfl) (fun _ _ h => h) (fun _ _ _ _ _ h => h) rfl (by kernel_rfl) (by kernel_rfl) (unhide cb) ?_
        have GD : Hid (Wa.grownBy w11.drew none) := grown_drew (unhide G11)
        have HTd : Hid (Blk .u16 75 w11.drew s14 T) := unhide HT11
        have HOd : Hid (Ow2 w11.drew (.slice (some ⟨R, 0, none⟩) L0.length nb) L0 F) := ok2.same _ _ _ _ _ (unhide HO11) (fun _ _ => rfl)
        have zd : Hid (w11.drew.heap[ob]? = some (.cells #[.slice (some ⟨R, 0, none⟩) L0.length nb] 33 (0, 0))) := unhide zb
        have cd : Hid (w11.drew.cell? ⟨ob, 0, none⟩ = some (.slice (some ⟨R, 0, none⟩) L0.length nb)) := unhide cb
        generalize w11.drew = w12 at *
        refine heldF_take (v := ?_) (Or.inl ⟨by rfl, ?_⟩) ?_
        rotate_left 1
        · intro w' hSw
          have cc := hSw
          go_simp
          try with_reducible rfl
        try simp only [Act.put, List.setIfInBounds_toArray, List.set_cons_zero, List.set_cons_succ]
        refine heldF_take (v := ?_) (Or.inl ⟨by rfl, ?_⟩) ?_
        rotate_left 1
        · intro w' hSw
          go_simp
          try with_reducible rfl
        try simp only [Act.put, List.setIfInBounds_toArray, List.set_cons_zero, List.set_cons_succ]
        refine heldF_skip (heldF_skip (heldF_skip (heldF_skip (heldF_nil ?_))))
        refine anyT_step1 (i := 2) rfl (by kernel_rfl) (fun K hK => ?_)
        go_simp
        refine (toneList 75 s14 64 T w12 (unhide HTd) (unhide HTL) (by omega) (unhide HTV)).mono ?_
        rintro e w13 ⟨so, sc, rfl, o13, g13⟩
        refine hK.out _ _ (.inr (g13.cell (unhide cd) (by simp))) ?_
        clear hK K
        try simp only [Act.put, List.setIfInBounds_toArray, List.set_cons_zero, List.set_cons_succ]
        have HO13 := hide (ok2.keep (unhide HOd) g13)
        have HU : Hid (OwI .i64 3 w13 (.slice so 64 sc) T (blk (.slice so 64 sc))) := ⟨by rw [unhide HTL]; exact own_base o13 (Nat.zero_le _), rfl⟩
        have HDU : Hid (∀ x ∈ blk (.slice so 64 sc), x ∉ F ∧ Wa.heap.size ≤ x) := fun x hx => by
          have e9 := (o13.lt x (mem_blk.1 hx)).1
          have h1 := (unhide GD).size
          exact ⟨fun h => by have := ok2.lt _ _ _ _ (unhide HOd) x h; omega, by omega⟩
        have HG13 := hide (grown_trans (unhide GD) g13)
        have c13 := hide (g13.cell (unhide cd) (by simp))
        have z13 := hide (grown_atG g13 (unhide zd) (by simp))
        clear o13 g13
        refine anyT_step1 (i := 3) rfl (by kernel_rfl) (fun K hK => ?_)
        go_simp
        refine hK.out _ _ (.inr ((World.grownBy_alloc w13 _ none).cell (unhide c13) (by simp))) ?_
        clear hK K
        try simp only [Act.put, List.setIfInBounds_toArray, List.set_cons_zero, List.set_cons_succ]
        refine anyT_step1 (i := 4) rfl (by kernel_rfl) (fun K hK => ?_)
        refine step_append_rowF ok1 Try.underlying33 infoIntSS rfl _ _ rfl R nb L0 F rfl (unhide HO13) (unhide HFN) (.slice so 64 sc) T _ (unhide HU) (blk_once _) (fun x hx => (unhide HDU x hx).1) rfl (unhide HROOM) L1 (unhide HNX) ?_
        intro w15 F15 o15 n15 m15 g15
        have hRo : R ≠ ob := by omega
        have z15 := grown_atG g15 (unhide z13) (by simp; exact hRo)
        have c15 : w15.cell? ⟨ob, 0, none⟩ = some (.slice (some ⟨R, 0, none⟩) L0.length nb) := by rw [cell_of_row w15 _ 0 _ _ (0, 0) z15]; rfl
        have f15 := frozen_of_row w15 ob 0 _ _ z15
        refine hK.out _ _ (.inr c15) ?_
        clear hK K
        try simp only [Act.put, List.setIfInBounds_toArray, List.set_cons_zero, List.set_cons_succ]
        refine anyT_step1 (i := 5) rfl (by kernel_rfl) (fun K hK => ?_)
        go_simp
        refine hK.out _ _ (.inl rfl) ?_
        clear hK K
        try simp only [Act.put]
        refine anyT_done (by kernel_rfl) ?_ _
        have hF15 : ∀ x ∈ F15, x = R ∨ w8.heap.size + 2 ≤ x := fun x hx => by
          rcases m15 x hx with h | h
          · exact unhide HFL x h
          · have := (unhide HDU x h).2
            exact .inr (by omega)
        have hl15 : l' ∉ F15 := fun e => by
          rcases m15 l' e with h | h
          · exact unhide HLF h
          · have := (unhide HDU l' h).2
            omega
        have gs := grown_set w15 ob 0 (.slice (some ⟨R, 0, none⟩) L1.length nb)
        have hob15 : ob ∉ F15 := fun e => by
          rcases hF15 ob e with h | h
          · omega
          · omega
        have hBut : But (fun k => k = ob ∨ k = R) Wa (w15.setCell ⟨ob, 0, none⟩ (.slice (some ⟨R, 0, none⟩) L1.length nb)) := (But.of_grown (unhide HG13) (fun k e => by cases e)).trans ((But.of_grown g15 (fun k e => by cases e; exact .inr rfl)).trans (But.of_grown gs (fun k e => by cases e; exact .inl rfl)))
        refine ⟨⟨?_, F15, ?_, n15, hF15, hl15, hlo⟩, hBut⟩
        · rw [heap_setCell_same w15 ob 0 _ _ _ z15]; rfl
        · exact ok2.same _ _ _ _ _ o15 (fun x hx => heap_setCell_other w15 ⟨ob, 0, none⟩ x _ (fun e => hob15 (by have e9 : x = ob := e; rw [← e9]; exact hx)))
      case done =>
        intro l D W9 hD hl hi b9 hdef
        obtain ⟨hob, F, hOw, hFN, hFL, hlF, hlo⟩ := hi
        have hlen9 : (sTo bw bh).length = L.length := by rw [sTo_len, unhide HLL]
        rw [hlen9, List.take_length] at hob hOw
        have k9 : W9.cell? ⟨ob, 0, none⟩ = some (.slice (some ⟨R, 0, none⟩) L.length nb) := by rw [cell_of_row W9 _ 0 _ _ (0, 0) hob]; rfl
        have HOW := hide hOw
        have HDEF := hide hdef
        have HB9 := hide b9
        have HFN := hide hFN
        have HFL := hide hFL
        have HD := hide hD
        clear hOw hdef b9 hob hFN hFL hlF hlo
        go_wp2
        refine ⟨by simp, .inl ⟨_, _, rfl, run_takeDeferred (unhide HDEF), ?_⟩⟩
        have lt := unhide HLT
        have s8 := unhide HS8
        have hs7 := unhide HS7
        have gd := grown_trans (unhide HG3) (unhide G8)
        have hgd := gd.size
        have b9 := unhide HB9
        refine ⟨_, results_tmp rfl _ _ _, ⟨_, F, rfl, ?_, unhide HFN, fun x hx => ?_⟩, ?_⟩
        · exact ok2.same _ _ _ _ _ (unhide HOW) (fun x hx => World.putObj_heap_other (fun e => by
            rcases unhide HFL x hx with h | h
            · omega
            · omega))
        · rcases unhide HFL x hx with h | h
          · omega
          · omega
        · have gp := grownBy_putObj' W9 D (.deferred none)
          refine ⟨gp.os.trans (b9.os.trans gd.os), gp.tape.trans (b9.tape.trans gd.tape), gp.output.trans (b9.output.trans gd.output), Nat.le_trans gd.size (Nat.le_trans b9.size gp.size), fun k hk _ => ?_⟩
          rw [World.putObj_heap_other (by omega), b9.block k (by omega) (fun e => by omega)]
          exact gd.block k hk (by simp)
  · obtain rfl : L = [] := by rw [← unhide HL, cutG, unhide HP]; rfl
    obtain ⟨tb, HTB⟩ : ∃ y, Hid ((decide (a.tmod 8 = 0) && decide (c.tmod 8 = 0)) = y) := ⟨_, rfl⟩
    have GT1 := hide (World.grownBy_alloc w1 (.cells #[.int .i64 a, .int .i64 c, .slice so sn sc] 57) none)
    go_wp2_with fail
    refine (tiled a c tb HTB _).mono ?_
    rintro e w2 ⟨rfl, g2⟩
    have HG2 := hide (grown_trans (unhide HG1) (grown_trans (unhide GT1) g2))
    clear g2
    go_wp2
    exact ⟨_, results_tmp rfl _ _ _, ⟨_, [], rfl, OwR.nil _ _ _, by simp, fun x hx => by simp at hx⟩, grown_alloc (unhide HG2) _⟩

end Go.Proofs.Ytkefpjbdkhifhaa

namespace Go.Proofs.Ytkefpjbdkhifhaa
open Go.RowKit

theorem in_piece {wd y x rr cc : Nat} (hx : x < wd) (hc : cc + 8 ≤ wd) : (rr * wd + cc ≤ y * wd + x ∧ y * wd + x < rr * wd + cc + 8) ↔ (y = rr ∧ cc ≤ x ∧ x < cc + 8) := by
  constructor
  · rintro ⟨h1, h2⟩
    rcases Nat.lt_trichotomy y rr with h | h | h
    · have : (y + 1) * wd ≤ rr * wd := Nat.mul_le_mul_right wd h
      rw [Nat.add_mul, Nat.one_mul] at this
      omega
    · subst h
      omega
    · have : (rr + 1) * wd ≤ y * wd := Nat.mul_le_mul_right wd h
      rw [Nat.add_mul, Nat.one_mul] at this
      omega
  · rintro ⟨rfl, h1, h2⟩
    omega
/-- A plane with the first l lines of a block in their place. -/
def Tiled (M M' T : List Int) (wd ht r c l : Nat) : Prop := M'.length = M.length ∧ ∀ y x, y < ht → x < wd → M'.getD (y * wd + x) 0 = if y / 8 = r ∧ x / 8 = c ∧ y % 8 < l then T.getD (y % 8 * 8 + x % 8) 0 else M.getD (y * wd + x) 0
theorem Tiled.none (M T : List Int) (wd ht r c : Nat) : Tiled M M T wd ht r c 0 := ⟨rfl, fun y x _ _ => by simp⟩
theorem Tiled.next {M M' T : List Int} {wd ht r c l : Nat} (h : Tiled M M' T wd ht r c l) (hl : l < 8) (hM : M.length = wd * ht) (hT : T.length = 64) (hr : 8 * r + l < ht) (hc : 8 * c + 8 ≤ wd) : Tiled M (spliceL M' ((T.drop (8 * l)).take 8) ((8 * r + l) * wd + 8 * c)) T wd ht r c (l + 1) := by
  have hsl : ((T.drop (8 * l)).take 8).length = 8 := by simp; omega
  have hre := row_end (w := wd) hr
  have hfit : (8 * r + l) * wd + 8 * c + ((T.drop (8 * l)).take 8).length ≤ M'.length := by rw [hsl, h.1, hM, Nat.mul_comm wd ht]; omega
  refine ⟨by rw [spliceL_len _ _ _ hfit]; exact h.1, fun y x hy hx => ?_⟩
  rw [spliceL_at _ _ _ _ hfit, hsl, h.2 y x hy hx]
  by_cases hin : (8 * r + l) * wd + 8 * c ≤ y * wd + x ∧ y * wd + x < (8 * r + l) * wd + 8 * c + 8
  · have h2 := (in_piece hx hc).1 hin
    have e1 : y / 8 = r := by omega
    have e2 : x / 8 = c := by omega
    have e3 : y % 8 = l := by omega
    have e4 : y * wd + x - ((8 * r + l) * wd + 8 * c) = x % 8 := by rw [h2.1]; omega
    rw [if_pos hin, if_pos ⟨e1, e2, by omega⟩, e4, e3]
    have h8 : x % 8 < 8 := Nat.mod_lt _ (by decide)
    have e5 : 8 * l + x % 8 = l * 8 + x % 8 := by omega
    simp [List.getElem?_take_of_lt h8, e5]
  · have h2 : ¬ (y = 8 * r + l ∧ 8 * c ≤ x ∧ x < 8 * c + 8) := fun e => hin ((in_piece hx hc).2 e)
    rw [if_neg hin]
    by_cases hq : y / 8 = r ∧ x / 8 = c ∧ y % 8 < l
    · rw [if_pos hq, if_pos ⟨hq.1, hq.2.1, by omega⟩]
    · rw [if_neg hq, if_neg (fun e => hq ⟨e.1, e.2.1, by
        have : y % 8 ≠ l := fun e9 => h2 ⟨by omega, by omega, by omega⟩
        omega⟩)]

set_option maxRecDepth 20000 in
set_option maxHeartbeats 3200000 in
theorem putTile (wd ht g n r c : Nat) (M T : List Int) (hw : wd ≤ 1024) (hh : ht ≤ 1024) (hr : 8 * r + 8 ≤ ht) (hc : 8 * c + 8 ≤ wd) (HN : Hid (wd * ht = n)) (W : World) (hB : Blk .u16 73 W g M) (hM : M.length = n) (hT : T.length = 64) :
    Calls Try.prog 64 #[.agg #[.int .i64 (wd : Int), .int .i64 (ht : Int), .slice (some ⟨g, 0, none⟩) n n], .int .i64 (r : Int), .int .i64 (c : Int), .agg (tq T)] W fun e W' => (∃ v, e = .returned v) ∧ (∃ M', Blk .u16 73 W' g M' ∧ Tiled M M' T wd ht r c 8) ∧ W.grownBy W' (some g) := by
  have HM := hide hM
  have HT := hide hT
  have HGL : Hid (g < W.heap.size) := hB.lt
  have HTS : Hid ((tq T).size = 64) := by unfold Hid; rw [tq_size]; exact hT
  obtain ⟨W0, hW0⟩ : ∃ W0, (W.alloc (.cells #[.int .i64 (wd : Int), .int .i64 (ht : Int), .slice (some ⟨g, 0, none⟩) n n] 57)).alloc (.cells (tq T) 75) = W0 := ⟨_, rfl⟩
  have HG0 : Hid (W.grownBy W0 none) := by rw [← hW0]; exact grown_alloc (World.grownBy_alloc _ _ _) _
  have b0 : Hid (W0.heap[W.heap.size]? = some (.cells #[.int .i64 (wd : Int), .int .i64 (ht : Int), .slice (some ⟨g, 0, none⟩) n n] 57 (0, 0))) := by rw [← hW0, Below.heap_alloc _ _ _ (by simp)]; exact heap_alloc_new W _
  have b1 : Hid (Blk .u16 75 W0 (W.heap.size + 1) T) := by
    rw [← hW0]
    have := heap_alloc_new (W.alloc (.cells #[.int .i64 (wd : Int), .int .i64 (ht : Int), .slice (some ⟨g, 0, none⟩) n n] 57)) (.cells (tq T) 75)
    unfold Hid Blk
    simpa [tq] using this
  have HB0 := hide (hB.grown (unhide HG0))
  have HW := hide hW0
  clear hW0 hB hM hT
  go_enter Try.func64, Try.ntmps64
  go_wp2
  rw [unhide HW]
  clear HW
  generalize hs : W.heap.size = s at *
  have HS := hide hs
  clear hs
  go_loopw [9] (fun lv wr => ∃ (l : Nat) (M' : List Int), l ≤ 8 ∧ lv = .int .i64 l ∧ Hid (Blk .u16 73 wr g M') ∧ Hid (Tiled M M' T wd ht r c l) ∧ Hid (W0.grownBy wr (some g))) (fun lv _ => 8 - (intOf lv).toNat)
  case atStart => exact ⟨0, M, by omega, by go_num, HB0, Tiled.none _ _ _ _ _ _, World.grownBy.refl _ _⟩
  case round =>
    clear HB0
    obtain ⟨l, M', hl, rfl, HQR, HTD, HGR⟩ := hrel
    by_cases hlt : l < 8
    · have hlI : (l : Int) < 8 := by omega
      have e1 := i64_in ((l : Int) + 1) (by omega)
      obtain ⟨l8, HL8⟩ : ∃ k : Nat, Hid (8 * l = k) := ⟨_, rfl⟩
      have hl8 : l8 + 8 ≤ 64 := by have := unhide HL8; omega
      have k1 : IntKind.i64.wrap ((l : Int) * 8) = (l8 : Int) := by have := unhide HL8; rw [i64_in _ (by omega)]; omega
      have s1 : (0 : Int) ≤ (l8 : Int) := by omega
      have s2 : (l8 : Int) ≤ 64 := by omega
      have s3 : ¬ 64 = l8 := by omega
      obtain ⟨lo, HLO⟩ : ∃ k : Nat, Hid ((8 * r + l) * wd + 8 * c = k) := ⟨_, rfl⟩
      have hro : 8 * r + l < ht := by omega
      have hlx := row_end (w := wd) hro
      rw [Nat.mul_comm ht wd, unhide HN] at hlx
      have hlo8 : lo + 8 ≤ n := by have := unhide HLO; omega
      have x0 := hide (grown_atG (unhide HGR) (unhide b0) (by have := unhide HGL; simp; omega))
      have HTR := hide ((unhide b1).beside (unhide HGR) (by have := unhide HGL; simp; omega))
      have HTN : Hid (Tiled M (spliceL M' ((T.drop l8).take 8) lo) T wd ht r c (l + 1)) := by
        rw [← unhide HL8, ← unhide HLO]
        exact (unhide HTD).next hlt (by rw [unhide HM, unhide HN]) (unhide HT) hro hc
      have HML : Hid (M'.length = n) := by unfold Hid; rw [(unhide HTD).1, unhide HM]
      clear hlx hro
      go_wp2
      refine wp_region_noPanic ?_
      refine wp_region_tailL 20 (fun W => W.heap[s]? = some (.cells #[.int .i64 (wd : Int), .int .i64 (ht : Int), .slice (some ⟨g, 0, none⟩) n n] 57 (0, 0))) [true, true, true, true, false, true, true, true, false] (by kernel_rfl) (fun _ _ _ _ _ h => h) rfl (by decide) (by kernel_rfl) (show wr.drew.heap[s]? = _ from unhide x0) ?_
      have HQR : Hid (Blk .u16 73 wr.drew g M') := unhide HQR
      have HTR : Hid (Blk .u16 75 wr.drew (s + 1) T) := unhide HTR
      have HD : Hid (wr.grownBy wr.drew none) := grown_drew (World.grownBy.refl _ _)
      have x0 : Hid (wr.drew.heap[s]? = _) := unhide x0
      generalize wr.drew = w4 at *
      refine heldF_take (v := .agg #[.int .i64 (wd : Int), .int .i64 (ht : Int), .slice (some ⟨g, 0, none⟩) n n]) (Or.inl ⟨by rfl, ?_⟩) ?_
      · intro w' hSw
        exact exec_row 57 _ rfl s rfl _ _ hSw _ Try.underlying57 rfl (by kernel_rfl)
      try simp only [Act.put, List.setIfInBounds_toArray, List.set_cons_zero, List.set_cons_succ]
      refine heldF_take (v := ?_) (Or.inl ⟨by rfl, ?_⟩) ?_
      rotate_left 1
      · intro w' hSw
        go_simp
        try with_reducible rfl
      try simp only [Act.put, List.setIfInBounds_toArray, List.set_cons_zero, List.set_cons_succ]
      refine heldF_take (v := ?_) (Or.inl ⟨by rfl, ?_⟩) ?_
      rotate_left 1
      · intro w' hSw
        go_simp
        try with_reducible rfl
      try simp only [Act.put, List.setIfInBounds_toArray, List.set_cons_zero, List.set_cons_succ]
      refine heldF_take (v := ?_) (Or.inl ⟨by rfl, ?_⟩) ?_
      rotate_left 1
      · intro w' hSw
        go_simp
        try with_reducible rfl
      try simp only [Act.put, List.setIfInBounds_toArray, List.set_cons_zero, List.set_cons_succ]
      refine heldF_skip ?_
      refine heldF_take (v := ?_) (Or.inl ⟨by rfl, ?_⟩) ?_
      rotate_left 1
      · intro w' hSw
        go_simp
        try with_reducible rfl
      try simp only [Act.put, List.setIfInBounds_toArray, List.set_cons_zero, List.set_cons_succ]
      refine heldF_take (v := ?_) (Or.inl ⟨by rfl, ?_⟩) ?_
      rotate_left 1
      · intro w' hSw
        go_simp
        try with_reducible rfl
      try simp only [Act.put, List.setIfInBounds_toArray, List.set_cons_zero, List.set_cons_succ]
      refine heldF_take (v := ?_) (Or.inl ⟨by rfl, ?_⟩) ?_
      rotate_left 1
      · intro w' hSw
        go_simp
        try with_reducible rfl
      try simp only [Act.put, List.setIfInBounds_toArray, List.set_cons_zero, List.set_cons_succ]
      refine heldF_skip ?_
      refine heldF_nil ?_
      refine tailL_skip ?_
      refine tailL_skip ?_
      refine tailL_skip ?_
      refine tailL_skip ?_
      refine tailL_step (fun K hK => ?_)
      go_simp
      refine (tileRow wd ht g n r c l lo hw hh (by omega) hc HN HLO w4).mono ?_
      rintro e w5 ⟨rfl, g5⟩
      refine hK.out _ _ (.inr (grown_atG g5 (unhide x0) (by simp))) ?_
      clear hK K
      try simp only [Act.put, List.setIfInBounds_toArray, List.set_cons_zero, List.set_cons_succ]
      refine tailL_skip ?_
      refine tailL_skip ?_
      refine tailL_skip ?_
      refine tailL_step (fun K hK => ?_)
      refine step_copyB rfl _ _ _ _ rfl 73 Try.underlying53 (by kernel_rfl) g lo 8 _ (s + 1) l8 (64 - l8) _ rfl rfl .u16 73 M' ((unhide HQR).grown g5) ((T.drop l8).take 8) 8 (by simp [Nat.min_def]; omega) (((unhide HTR).grown g5).rd l8 8 (by have := unhide HT; omega)) (by rw [unhide HML]; exact hlo8) _ rfl ?_
      intro w7 hQ7 g7
      refine hK.out _ _ (.inl rfl) ?_
      clear hK K
      refine tailL_nil (NoPanic.normal ?_)
      try simp only [Act.put]
      have HG7 : Hid (W0.grownBy w7 (some g)) := grown_trans (unhide HGR) (grown_trans (grown_any (grown_trans (unhide HD) g5)) g7)
      have HQ7 := hide hQ7
      clear hQ7 g7 g5 HQR HGR HTR
      go_wp2
      go_roundw
      case rel => exact ⟨l + 1, _, by omega, by go_num, HQ7, HTN, HG7⟩
      case measure => simp [intOf]; omega
    · obtain rfl : l = 8 := by omega
      have hld : decide ((8 : Int) < 8) = false := by decide
      go_wp2
      go_end0
      exact ⟨⟨_, rfl⟩, ⟨M', unhide HQR, unhide HTD⟩, grown_trans (grown_any (unhide HG0)) (unhide HGR)⟩

/-- What fixTile answers. -/
def FixT (zs : List Int) (b : Bool) (e : Ending) : Prop := ∃ T, e = .returned (.tuple #[.agg (tq T), .bool b]) ∧ T.length = 64 ∧ (b = true → T = zs)

set_option maxRecDepth 20000 in
set_option maxHeartbeats 3200000 in
theorem fixTile (ao : Option Addr) (m cap : Nat) (zs : List Int) (W : World) (hr : Rd .i64 W ao m zs) (b : Bool) (HB : Hid (levB 0 4095 zs = b)) :
    Calls Try.prog 63 #[.slice ao m cap] W fun e W' => FixT zs b e ∧ W.grownBy W' none := by
  have HR := hide hr
  have HZL := hide hr.1
  obtain ⟨Z, HZ⟩ : ∃ Z, Hid (tq (List.replicate 64 0) = Z) := ⟨_, rfl⟩
  have HZS : Hid (Z.size = 64) := by unfold Hid; rw [← unhide HZ, tq_size]; rfl
  have HZO : Hid (Z.all (·.oneCell') = true) := by rw [← unhide HZ]; exact tq_one _
  have hz : (#[.int .u16 0, .int .u16 0, .int .u16 0, .int .u16 0, .int .u16 0, .int .u16 0, .int .u16 0, .int .u16 0, .int .u16 0, .int .u16 0, .int .u16 0, .int .u16 0, .int .u16 0, .int .u16 0, .int .u16 0, .int .u16 0, .int .u16 0, .int .u16 0, .int .u16 0, .int .u16 0, .int .u16 0, .int .u16 0, .int .u16 0, .int .u16 0, .int .u16 0, .int .u16 0, .int .u16 0, .int .u16 0, .int .u16 0, .int .u16 0, .int .u16 0, .int .u16 0, .int .u16 0, .int .u16 0, .int .u16 0, .int .u16 0, .int .u16 0, .int .u16 0, .int .u16 0, .int .u16 0, .int .u16 0, .int .u16 0, .int .u16 0, .int .u16 0, .int .u16 0, .int .u16 0, .int .u16 0, .int .u16 0, .int .u16 0, .int .u16 0, .int .u16 0, .int .u16 0, .int .u16 0, .int .u16 0, .int .u16 0, .int .u16 0, .int .u16 0, .int .u16 0, .int .u16 0, .int .u16 0, .int .u16 0, .int .u16 0, .int .u16 0, .int .u16 0] : Array Value) = Z := by rw [← unhide HZ]; exact tq_z.symm
  obtain ⟨W0, hW0⟩ : ∃ W0, (W.alloc (.cells Z 75)).alloc (.cells Z 75) = W0 := ⟨_, rfl⟩
  have HG0 : Hid (W.grownBy W0 none) := by rw [← hW0]; exact grown_alloc (World.grownBy_alloc _ _ _) _
  have b0 : Hid (W0.heap[W.heap.size]? = some (.cells Z 75 (0, 0))) := by rw [← hW0, Below.heap_alloc _ _ _ (by simp)]; exact heap_alloc_new W _
  have b1 : Hid (W0.heap[W.heap.size + 1]? = some (.cells Z 75 (0, 0))) := by
    rw [← hW0]
    have := heap_alloc_new (W.alloc (.cells Z 75)) (.cells Z 75)
    unfold Hid
    simpa using this
  have HW := hide hW0
  have bq : Hid (((W.alloc (.cells Z 75)).alloc (.cells Z 75)).heap[W.heap.size + 1]? = some (.cells Z 75 (0, 0))) := by rw [unhide HW]; exact b1
  clear hW0 hr
  go_enter Try.func63, Try.ntmps63
  by_cases hm : ¬ m = 64
  · obtain rfl : b = false := by rw [← unhide HB, levB, unhide HZL, decide_eq_false hm]; rfl
    have d1 : ((m : Int) == 64) = false := by simp; omega
    have d2 : decide ((m : Int) = 64) = false := by simp; omega
    go_wp2_with (first | (refine load_row rfl 75 _ rfl (W.heap.size + 1) rfl Z 75 (unhide HB2) _ Try.underlying75 rfl (by rw [unhide HZS]; kernel_rfl) ?_) | (refine store_row rfl 75 _ _ rfl (W.heap.size + 1) rfl Z rfl Z 75 (unhide bq) rfl (by rw [unhide HZS]; kernel_rfl) (unhide HZO) ?_; intro w2 hB2 g2; rw [unhide HW] at g2; have p0 := hide (grown_atG g2 (unhide b0) (by simp)); have HB2 := hide hB2; have HG2 : Hid (W.grownBy w2 none) := (grown_new (unhide HG0) g2 (fun k e => by simp at e; omega)); clear g2 hB2) | (refine store_row rfl 75 _ _ rfl W.heap.size rfl Z rfl _ 75 (unhide p0) rfl (by rw [unhide HZS]; kernel_rfl) (unhide HZO) ?_; intro w9 hB9 g9))
    refine bodyPost_ret (v := .tuple #[.agg Z, .bool false]) ?_ rfl ⟨⟨List.replicate 64 0, by rw [unhide HZ], rfl, fun e => by cases e⟩, ?_⟩
    · exact results_c2 (p := 2) (q := 3) (ty := 75) rfl _ _ _ W.heap.size rfl _ (run_loadVar_row w9 _ 75 75 _ (0, 0) _ hB9 Try.underlying75 rfl (by rw [unhide HZS]; kernel_rfl))
    · exact grown_new (unhide HG2) g9 (fun k e => by simp at e; omega)
  obtain rfl : m = 64 := by omega
  have HBZ : Hid ((zs.all fun x => decide (0 ≤ x ∧ x ≤ 4095)) = b) := by
    unfold Hid
    rw [← unhide HB, levB, unhide HZL]
    simp
  go_wp2_with ((refine store_row rfl 75 _ _ rfl (W.heap.size + 1) rfl Z rfl Z 75 (unhide bq) rfl (by rw [unhide HZS]; kernel_rfl) (unhide HZO) ?_; intro w2 hB2 g2))
  rw [unhide HW] at g2
  have p0 := hide (grown_atG g2 (unhide b0) (by simp))
  have HQ2 : Hid (Blk .u16 75 w2 (W.heap.size + 1) (List.replicate 64 0)) := by
    unfold Hid Blk
    rw [hB2, ← unhide HZ]
    rfl
  have HG2 : Hid (W.grownBy w2 none) := grown_new (unhide HG0) g2 (fun k e => by simp at e; omega)
  clear g2 hB2 bq b0 b1 hm hz
  go_wp2_with fail
  refine (putTones 75 (W.heap.size + 1) 64 cap ao zs w2 ((unhide HR).grown (unhide HG2)) (unhide HQ2) (fun h0 b' off e => by have := (unhide HR).lt h0 b' off e; omega) (by omega) b HBZ).mono ?_
  rintro e w3 ⟨rfl, ⟨T, hT, hBT, hTz⟩, g3⟩
  have HTL := hide hT
  have HTS : Hid ((tq T).size = 64) := by unfold Hid; rw [tq_size]; exact hT
  have HB3 : Hid (w3.heap[W.heap.size + 1]? = some (.cells (tq T) 75 (0, 0))) := hBT
  have q0 := hide (grown_atG g3 (unhide p0) (by simp))
  have HTZ := hide hTz
  have HG3 : Hid (W.grownBy w3 none) := grown_new (unhide HG2) g3 (fun k e => by simp at e; omega)
  clear hT hBT hTz g3
  have FIN : Hid (b = b) := rfl
  cases b with
  | true =>
    go_wp2_with (first | (refine load_row rfl 75 _ rfl (W.heap.size + 1) rfl (tq T) 75 (unhide HB3) _ Try.underlying75 rfl (by rw [unhide HTS]; kernel_rfl) ?_) | (refine store_row rfl 75 _ _ rfl W.heap.size rfl (tq T) rfl _ 75 (unhide q0) (by rw [unhide HZS, unhide HTS]) (by rw [unhide HTS]; kernel_rfl) (tq_one _) ?_; intro w9 hB9 g9))
    refine bodyPost_ret (v := .tuple #[.agg (tq T), .bool true]) ?_ rfl ⟨⟨T, rfl, unhide HTL, fun _ => unhide HTZ (by simp)⟩, ?_⟩
    · exact results_c2 (p := 2) (q := 3) (ty := 75) rfl _ _ _ W.heap.size rfl _ (run_loadVar_row w9 _ 75 75 _ (0, 0) _ hB9 Try.underlying75 rfl (by rw [unhide HTS]; kernel_rfl))
    · exact grown_new (unhide HG3) g9 (fun k e => by simp at e; omega)
  | false =>
    go_wp2_with (first | (refine load_row rfl 75 _ rfl (W.heap.size + 1) rfl (tq T) 75 (unhide HB3) _ Try.underlying75 rfl (by rw [unhide HTS]; kernel_rfl) ?_) | (refine store_row rfl 75 _ _ rfl W.heap.size rfl (tq T) rfl _ 75 (unhide q0) (by rw [unhide HZS, unhide HTS]) (by rw [unhide HTS]; kernel_rfl) (tq_one _) ?_; intro w9 hB9 g9))
    refine bodyPost_ret (v := .tuple #[.agg (tq T), .bool false]) ?_ rfl ⟨⟨T, rfl, unhide HTL, fun e => by cases e⟩, ?_⟩
    · exact results_c2 (p := 2) (q := 3) (ty := 75) rfl _ _ _ W.heap.size rfl _ (run_loadVar_row w9 _ 75 75 _ (0, 0) _ hB9 Try.underlying75 rfl (by rw [unhide HTS]; kernel_rfl))
    · exact grown_new (unhide HG3) g9 (fun k e => by simp at e; omega)

end Go.Proofs.Ytkefpjbdkhifhaa

namespace Go.Proofs.Ytkefpjbdkhifhaa
open Go.RowKit

/-- A plane with the first k blocks in their places. -/
def Joined (B : List (List Int)) (M : List Int) (bw wN hN k : Nat) : Prop := M.length = wN * hN ∧ ∀ y x, y < hN → x < wN → M.getD (y * wN + x) 0 = if y / 8 * bw + x / 8 < k then (B.getD (y / 8 * bw + x / 8) []).getD (y % 8 * 8 + x % 8) 0 else 0
theorem Joined.none (B : List (List Int)) (bw wN hN : Nat) : Joined B (List.replicate (wN * hN) 0) bw wN hN 0 :=
  ⟨by simp, fun y x _ _ => by rw [if_neg (by omega), List.getD_eq_getElem?_getD, List.getElem?_replicate]; split <;> rfl⟩
theorem Joined.next {B : List (List Int)} {M M' T : List Int} {bw wN hN k : Nat} (h : Joined B M bw wN hN k) (hb : 1 ≤ bw) (hw : wN = 8 * bw) (hT : Tiled M M' T wN hN (k / bw) (k % bw) 8) (hk : B.getD k [] = T) : Joined B M' bw wN hN (k + 1) := by
  refine ⟨hT.1.trans h.1, fun y x hy hx => ?_⟩
  rw [hT.2 y x hy hx, h.2 y x hy hx]
  have h8 : y % 8 < 8 := Nat.mod_lt _ (by decide)
  have hxb : x / 8 < bw := by omega
  by_cases e : y / 8 = k / bw ∧ x / 8 = k % bw
  · have e2 : y / 8 * bw + x / 8 = k := by
      rw [e.1, e.2]
      exact Nat.div_add_mod' k bw
    rw [if_pos ⟨e.1, e.2, h8⟩, e2, if_pos (by omega), hk]
  · have e2 : y / 8 * bw + x / 8 ≠ k := fun e9 => e (by
      rw [← e9]
      refine ⟨?_, ?_⟩
      · rw [Nat.add_comm, Nat.add_mul_div_right _ _ (by omega), Nat.div_eq_of_lt hxb, Nat.zero_add]
      · rw [Nat.add_comm, Nat.add_mul_mod_self_right, Nat.mod_eq_of_lt hxb])
    rw [if_neg (fun e9 => e ⟨e9.1, e9.2.1⟩)]
    by_cases e3 : y / 8 * bw + x / 8 < k
    · rw [if_pos e3, if_pos (by omega)]
    · rw [if_neg e3, if_neg (by omega)]
theorem Joined.all {B : List (List Int)} {M : List Int} {bw bh wN hN : Nat} (h : Joined B M bw wN hN (bh * bw)) (hw : wN = 8 * bw) (hh : hN = 8 * bh) : joinL B wN hN = M := by
  rw [← gridL_self h.1]
  unfold joinL
  refine gridL_congr (fun y x hy hx => ?_)
  have e : wN / 8 = bw := by omega
  have hre := row_end (w := bw) (show y / 8 < bh by omega)
  rw [h.2 y x hy hx, e, if_pos (by omega)]
theorem joined_vals {B : List (List Int)} {wN hN : Nat} (hB : ∀ b ∈ B, levB 0 4095 b = true) : ∀ v ∈ joinL B wN hN, 0 ≤ v ∧ v ≤ 4095 := by
  intro v hv
  unfold joinL gridL at hv
  obtain ⟨i, _, rfl⟩ := List.mem_map.1 hv
  dsimp only
  generalize i / wN / 8 * (wN / 8) + i % wN / 8 = j
  generalize i / wN % 8 * 8 + i % wN % 8 = q
  by_cases hj : j < B.length
  · have e : B.getD j [] = B[j] := by simp [hj]
    have h1 := lev_at (hB _ (List.getElem_mem hj))
    rw [e]
    by_cases hq : q < 64
    · exact h1.2 q hq
    · have e2 : B[j].getD q 0 = 0 := by rw [List.getD_eq_getElem?_getD, List.getElem?_eq_none (by omega)]; rfl
      rw [e2]
      omega
  · have e : B.getD j [] = [] := by rw [List.getD_eq_getElem?_getD, List.getElem?_eq_none (by omega)]; rfl
    rw [e]
    simp

set_option maxRecDepth 20000 in
set_option maxHeartbeats 6400000 in
theorem implJoinBlocks (ao : Option Addr) (n cap : Nat) (B : List (List Int)) (w h : Int) (W : World) (hr : Rd2 W (.slice ao n cap) B) (L : List Int) (HL : Hid (joinG B w h = L)) :
    Calls Try.prog 25 #[.slice ao n cap, .int .i64 w, .int .i64 h] W fun e W' => ∃ so sc, e = .returned (.slice so L.length sc) ∧ W'.ownsRow W.heap.size 3 1 (.slice so L.length sc) L.length (L.map (Value.int .i64)) ∧ W.grownBy W' none := by
  have hnB : B.length = n := by
    obtain ⟨_, _, e, _⟩ := hr
    simp only [Value.slice.injEq] at e
    exact e.2.1.symm
  have HNB := hide hnB
  have HR := hide hr
  clear hr hnB
  obtain ⟨sb, HS⟩ : ∃ y, Hid (sidesB w h = y) := ⟨_, rfl⟩
  obtain ⟨tb, HTB⟩ : ∃ y, Hid ((decide (w.tmod 8 = 0) && decide (h.tmod 8 = 0)) = y) := ⟨_, rfl⟩
  obtain ⟨a, HA⟩ : ∃ x, Hid (IntKind.i64.wrap (w.tdiv 8) = x) := ⟨_, rfl⟩
  obtain ⟨b, HBQ⟩ : ∃ x, Hid (IntKind.i64.wrap (h.tdiv 8) = x) := ⟨_, rfl⟩
  have HB0 := hide (heap_alloc_new W (.cells #[.int .i64 w, .int .i64 h] 48))
  have HG0 := hide (World.grownBy_alloc W (.cells #[.int .i64 w, .int .i64 h] 48) none)
  go_enter Try.func25, Try.ntmps25
  go_wp2_with fail
  refine (tiled w h tb HTB _).mono ?_
  rw [unhide HA, unhide HBQ]
  rintro e w1 ⟨rfl, g1⟩
  obtain ⟨W1, hW1⟩ : ∃ W1, w1.alloc (.cells #[.int .i64 a, .int .i64 b] 48) = W1 := ⟨_, rfl⟩
  have HG1 : Hid (W.grownBy W1 none) := by rw [← hW1]; exact grown_alloc (grown_trans (unhide HG0) g1) _
  have p0 : Hid (W1.heap[W.heap.size]? = some (.cells #[.int .i64 w, .int .i64 h] 48 (0, 0))) := by rw [← hW1]; exact grown_atG (grown_alloc g1 _) (unhide HB0) (by simp)
  have p1 : Hid (W1.heap[w1.heap.size]? = some (.cells #[.int .i64 a, .int .i64 b] 48 (0, 0))) := by rw [← hW1]; exact heap_alloc_new w1 _
  have c0 : (w1.alloc (.cells #[.int .i64 a, .int .i64 b] 48)).cell? ⟨W.heap.size, 0, none⟩ = some (.int .i64 w) := by rw [hW1, cell_of_row W1 _ 0 _ _ (0, 0) (unhide p0)]; rfl
  have c1 : (w1.alloc (.cells #[.int .i64 a, .int .i64 b] 48)).cell? ⟨W.heap.size, 1, none⟩ = some (.int .i64 h) := by rw [hW1, cell_of_row W1 _ 1 _ _ (0, 0) (unhide p0)]; rfl
  have HW1 := hide hW1
  clear hW1 g1 HB0 HG0
  go_wp2_with fail
  rw [unhide HW1]
  refine (isPlane w h sb HS W1).mono ?_
  rintro e w2 ⟨rfl, g2⟩
  have HG2 := hide (grown_trans (unhide HG1) g2)
  have q0 := hide (grown_atG g2 (unhide p0) (by simp))
  have q1 := hide (grown_atG g2 (unhide p1) (by simp))
  clear HW1 c0 c1 g2 p0 p1
  generalize w1.heap.size = s1 at *
  cases sb with
  | false =>
    obtain rfl : L = [] := by rw [← unhide HL, joinG, unhide HS]; rfl
    go_wp2
    go_ret
    exact ⟨none, 0, rfl, ⟨rfl, .inl ⟨rfl, rfl⟩⟩, unhide HG2⟩
  | true =>
    obtain ⟨a1, a2, a3⟩ := sides_of (unhide HS)
    have e1 : w.tmod 8 = w % 8 := Int.tmod_eq_emod_of_nonneg (by omega)
    have e2 : h.tmod 8 = h % 8 := Int.tmod_eq_emod_of_nonneg (by omega)
    have hTB := unhide HTB
    rw [e1, e2] at hTB
    cases tb with
    | false =>
      obtain rfl : L = [] := by
        rw [← unhide HL, joinG, if_neg]
        intro e
        simp only [Bool.and_eq_true, decide_eq_true_eq, Bool.and_eq_false_iff, decide_eq_false_iff_not] at e hTB
        omega
      clear hTB e1 e2
      go_wp2
      go_ret
      exact ⟨none, 0, rfl, ⟨rfl, .inl ⟨rfl, rfl⟩⟩, unhide HG2⟩
    | true =>
      simp only [Bool.and_eq_true, decide_eq_true_eq] at hTB
      obtain ⟨bw, bh, E1, E2, b1, b2, E3⟩ := join_sides (unhide HS) hTB.1 hTB.2
      have ea : a = (bw : Int) := by rw [← unhide HA, Int.tdiv_eq_ediv_of_nonneg (by omega), i64_in _ (by omega)]; omega
      have eb : b = (bh : Int) := by rw [← unhide HBQ, Int.tdiv_eq_ediv_of_nonneg (by omega), i64_in _ (by omega)]; omega
      subst ea
      subst eb
      obtain ⟨wN, HWN⟩ : ∃ k : Nat, Hid (8 * bw = k) := ⟨_, rfl⟩
      obtain ⟨hN, HHN⟩ : ∃ k : Nat, Hid (8 * bh = k) := ⟨_, rfl⟩
      rw [unhide HWN] at E1
      rw [unhide HHN] at E2
      subst E1
      subst E2
      have D1 := hide hTB.1
      have D2 := hide hTB.2
      obtain ⟨nb, HNN⟩ : ∃ k : Nat, Hid (bh * bw = k) := ⟨_, rfl⟩
      have hnb : nb ≤ 16384 := by rw [← unhide HNN]; exact Nat.mul_le_mul b2.2 b1.2
      have hnb1 : 1 ≤ nb := by rw [← unhide HNN]; exact Nat.mul_le_mul b2.1 b1.1
      have HE3 : Hid ((wN : Int) * (hN : Int) / 64 = (nb : Int)) := by unfold Hid; rw [E3, unhide HNN]
      have HSM : Hid (wN * hN ≤ 131072) := by rw [← Int.natCast_mul] at a3; unfold Hid; omega
      have j0 : w2.cell? ⟨s1, 0, none⟩ = some (.int .i64 (bw : Int)) := by rw [cell_of_row w2 _ 0 _ _ (0, 0) (unhide q1)]; rfl
      have j1 : w2.cell? ⟨s1, 1, none⟩ = some (.int .i64 (bh : Int)) := by rw [cell_of_row w2 _ 1 _ _ (0, 0) (unhide q1)]; rfl
      clear hTB e1 e2 E3 a3 HA HBQ HTB
      go_wp2_with fail
      refine (areaCount (bw : Int) (bh : Int) (by omega) (by omega) w2).mono ?_
      rintro e w3 ⟨rfl, g3⟩
      obtain ⟨qq, HQQ⟩ : ∃ x : Int, Hid ((bw : Int) * (bh : Int) = x) := ⟨_, rfl⟩
      have HQN : Hid ((nb : Int) = qq) := by unfold Hid; rw [← unhide HQQ, ← unhide HNN, Nat.mul_comm]; push_cast; rfl
      rw [unhide HQQ]
      have HG3 := hide (grown_trans (unhide HG2) g3)
      have r0 := hide (grown_atG g3 (unhide q0) (by simp))
      have r1 := hide (grown_atG g3 (unhide q1) (by simp))
      clear g3 j0 j1 q0 q1 HG2
      by_cases hl : ¬ n = nb
      · obtain rfl : L = [] := by
          rw [← unhide HL, joinG, unhide HE3, unhide HNB, decide_eq_false (by omega : ¬ (n : Int) = (nb : Int))]
          simp
        have d3 : ((n : Int) != qq) = true := by have := unhide HQN; simp; omega
        clear hl
        go_wp2
        go_ret
        exact ⟨none, 0, rfl, ⟨rfl, .inl ⟨rfl, rfl⟩⟩, unhide HG3⟩
      obtain rfl : nb = n := by omega
      have d3 : ((nb : Int) != qq) = false := by have := unhide HQN; simp; omega
      have HLB : Hid (joinG B (wN : Int) (hN : Int) = if B.all (levB 0 4095) then joinL B wN hN else []) := by
        unfold Hid
        rw [joinG, unhide HS, decide_eq_true (unhide D1), decide_eq_true (unhide D2), unhide HE3, unhide HNB, Int.toNat_natCast, Int.toNat_natCast, decide_eq_true (rfl : (nb : Int) = (nb : Int))]
        simp only [Bool.true_and]
      obtain ⟨bb, off, rfl⟩ : ∃ bb off, ao = some ⟨bb, off, none⟩ := by
        obtain ⟨ao', cp, e, hh⟩ := unhide HR
        obtain ⟨b, o, u, e1, _⟩ := hh 0 (by rw [unhide HNB]; omega)
        simp only [Value.slice.injEq] at e
        exact ⟨b, o, by rw [e.1, e1]⟩
      obtain ⟨m, HM⟩ : ∃ k : Nat, Hid (wN * hN = k) := ⟨_, rfl⟩
      have k0 : w3.cell? ⟨W.heap.size, 0, none⟩ = some (.int .i64 (wN : Int)) := by rw [cell_of_row w3 _ 0 _ _ (0, 0) (unhide r0)]; rfl
      have k1 : w3.cell? ⟨W.heap.size, 1, none⟩ = some (.int .i64 (hN : Int)) := by rw [cell_of_row w3 _ 1 _ _ (0, 0) (unhide r0)]; rfl
      have hwN : wN ≤ 1024 ∧ hN ≤ 1024 := by omega
      clear hl D1 D2 a1 a2
      go_wp2_with fail
      refine (newTones wN hN m hwN.1 hwN.2 HM w3).mono ?_
      rintro e w4 ⟨g, rfl, hQ4, hge4, g4⟩
      obtain ⟨W5, hW5⟩ : ∃ W5, w4.alloc (.cells #[.int .i64 (wN : Int), .int .i64 (hN : Int), .slice (some ⟨g, 0, none⟩) m m] 57) = W5 := ⟨_, rfl⟩
      have GA : w3.grownBy W5 none := by rw [← hW5]; exact grown_alloc g4 _
      have HG5 : Hid (W.grownBy W5 none) := grown_trans (unhide HG3) GA
      have HQ5 : Hid (Blk .u16 73 W5 g (List.replicate (wN * hN) 0)) := by rw [← hW5, unhide HM]; exact hQ4.grown (World.grownBy_alloc _ _ _)
      have x1 := hide (grown_atG GA (unhide r1) (by simp))
      have x5 : Hid (W5.heap[w4.heap.size]? = some (.cells #[.int .i64 (wN : Int), .int .i64 (hN : Int), .slice (some ⟨g, 0, none⟩) m m] 57 (0, 0))) := by rw [← hW5]; exact heap_alloc_new w4 _
      have HGL : Hid (g < w4.heap.size ∧ W.heap.size ≤ g ∧ s1 < w3.heap.size ∧ w3.heap.size ≤ g) := ⟨hQ4.lt, by have := (unhide HG3).size; omega, (Array.getElem?_eq_some_iff.1 (unhide r1)).1, hge4⟩
      have HW5 := hide hW5
      clear hW5 g4 hge4 hQ4 k0 k1 GA r0 r1
      obtain ⟨Z, HZ⟩ : ∃ Z, Hid (tq (List.replicate 64 0) = Z) := ⟨_, rfl⟩
      have HZS : Hid (Z.size = 64) := by unfold Hid; rw [← unhide HZ, tq_size]; rfl
      have hz : (#[.int .u16 0, .int .u16 0, .int .u16 0, .int .u16 0, .int .u16 0, .int .u16 0, .int .u16 0, .int .u16 0, .int .u16 0, .int .u16 0, .int .u16 0, .int .u16 0, .int .u16 0, .int .u16 0, .int .u16 0, .int .u16 0, .int .u16 0, .int .u16 0, .int .u16 0, .int .u16 0, .int .u16 0, .int .u16 0, .int .u16 0, .int .u16 0, .int .u16 0, .int .u16 0, .int .u16 0, .int .u16 0, .int .u16 0, .int .u16 0, .int .u16 0, .int .u16 0, .int .u16 0, .int .u16 0, .int .u16 0, .int .u16 0, .int .u16 0, .int .u16 0, .int .u16 0, .int .u16 0, .int .u16 0, .int .u16 0, .int .u16 0, .int .u16 0, .int .u16 0, .int .u16 0, .int .u16 0, .int .u16 0, .int .u16 0, .int .u16 0, .int .u16 0, .int .u16 0, .int .u16 0, .int .u16 0, .int .u16 0, .int .u16 0, .int .u16 0, .int .u16 0, .int .u16 0, .int .u16 0, .int .u16 0, .int .u16 0, .int .u16 0, .int .u16 0] : Array Value) = Z := by rw [← unhide HZ]; exact tq_z.symm
      go_wp2
      rw [unhide HW5]
      clear HW5
      generalize w4.heap.size = s5 at *
      go_loopw [41] (fun iv wr => ∃ (k : Nat) (M : List Int), k ≤ nb ∧ iv = .int .i64 k ∧ Hid (Blk .u16 73 wr g M) ∧ Hid (Joined B M bw wN hN k) ∧ Hid (∀ j, j < k → levB 0 4095 (B.getD j []) = true) ∧ Hid (W5.grownBy wr (some g))) (fun iv _ => nb - (intOf iv).toNat)
      case atStart => exact ⟨0, _, by omega, by go_num, HQ5, Joined.none _ _ _ _, fun j hj => absurd hj (by omega), World.grownBy.refl _ _⟩
      case round =>
        clear HQ5
        obtain ⟨k, M, hk, rfl, HQR, HJ, HK, HGR⟩ := hrel
        by_cases hlt : k < nb
        · have hkI : (k : Int) < (nb : Int) := by omega
          have f1 := i64_in ((k : Int) + 1) (by omega)
          obtain ⟨Bk, HBK⟩ : ∃ b, Hid (B.getD k [] = b) := ⟨_, rfl⟩
          obtain ⟨uo, uc, hc, hrk⟩ := Rd2.at (unhide HR) k (by rw [unhide HNB]; exact hlt)
          rw [unhide HBK] at hc hrk
          obtain ⟨bl, HBL⟩ : ∃ k, Hid (Bk.length = k) := ⟨_, rfl⟩
          rw [unhide HBL] at hc hrk
          have HGW : Hid (W.grownBy wr none) := grown_new (unhide HG5) (unhide HGR) (fun q e => by simp at e; have := unhide HGL; omega)
          have hcell := (unhide HGW).cell hc (by simp)
          have HRK := hide (hrk.grown (unhide HGW))
          obtain ⟨t, HT⟩ : ∃ t, Hid (levB 0 4095 Bk = t) := ⟨_, rfl⟩
          clear hc hrk
          go_wp2_with fail
          refine (fixTile uo bl uc Bk wr (unhide HRK) t HT).mono ?_
          rintro e w6 ⟨⟨T, rfl, hTl, hTB⟩, g6⟩
          have HTL := hide hTl
          have HTS : Hid ((tq T).size = 64) := by unfold Hid; rw [tq_size]; exact hTl
          have HTB := hide hTB
          have HG6 := hide g6
          have HB7 := hide (heap_alloc_new w6 (.cells Z 75))
          have HZN := hide (World.grownBy_alloc w6 (.cells Z 75) none)
          clear hTl hTB g6
          cases t with
          | false =>
            obtain rfl : L = [] := by
              rw [← unhide HL, unhide HLB, if_neg]
              intro e
              have hk' : k < B.length := by rw [unhide HNB]; exact hlt
              have := List.all_eq_true.1 e B[k] (List.getElem_mem hk')
              rw [show B[k] = Bk by rw [← unhide HBK]; simp [hk'], unhide HT] at this
              cases this
            go_wp2_with ((refine store_row rfl 75 _ _ rfl w6.heap.size rfl (tq T) rfl Z 75 (unhide HB7) (by rw [unhide HZS, unhide HTS]) (by rw [unhide HTS]; kernel_rfl) (tq_one _) ?_; intro w7 hB7 g7))
            go_ret
            exact ⟨none, 0, rfl, ⟨rfl, .inl ⟨rfl, rfl⟩⟩, grown_new (grown_trans (grown_trans (unhide HGW) (unhide HG6)) (unhide HZN)) g7 (fun q e => by simp at e; have := (unhide HGW).size; have := (unhide HG6).size; omega)⟩
          | true =>
            obtain rfl : T = Bk := unhide HTB (by simp)
            go_wp2_with ((refine store_row rfl 75 _ _ rfl w6.heap.size rfl (tq T) rfl Z 75 (unhide HB7) (by rw [unhide HZS, unhide HTS]) (by rw [unhide HTS]; kernel_rfl) (tq_one _) ?_; intro w7 hB7 g7))
            have G7 : Hid (wr.grownBy w7 none) := grown_new (grown_trans (unhide HG6) (unhide HZN)) g7 (fun q e => by simp at e; have := (unhide HG6).size; omega)
            have y7 := hide hB7
            clear hB7 g7 HB7 HZN HG6 hcell
            generalize w6.heap.size = s7 at *
            obtain ⟨kr, HKR⟩ : ∃ x : Nat, Hid (k / bw = x) := ⟨_, rfl⟩
            obtain ⟨kc, HKC⟩ : ∃ x : Nat, Hid (k % bw = x) := ⟨_, rfl⟩
            have hkr : kr < bh := by rw [← unhide HKR]; exact Nat.div_lt_of_lt_mul (by rw [Nat.mul_comm, unhide HNN]; exact hlt)
            have hkc : kc < bw := by rw [← unhide HKC]; exact Nat.mod_lt _ (by omega)
            have z1 : ((bw : Int) == 0) = false := beq_eq_false_iff_ne.2 (by omega)
            have z2 : ((bw : Int) == -1) = false := beq_eq_false_iff_ne.2 (by omega)
            have z3 : ¬ bw = 0 := by omega
            have q1 : (k : Int).tdiv (bw : Int) = (kr : Int) := by
              rw [Int.tdiv_eq_ediv_of_nonneg (by omega)]
              have := unhide HKR
              exact_mod_cast this
            have q2 : (k : Int).tmod (bw : Int) = (kc : Int) := by
              rw [Int.tmod_eq_emod_of_nonneg (by omega)]
              have := unhide HKC
              exact_mod_cast this
            have q3 := i64_in (kr : Int) (by omega)
            have q4 := i64_in (kc : Int) (by omega)
            have HK' : Hid (∀ j, j < k + 1 → levB 0 4095 (B.getD j []) = true) := fun j hj => by
              by_cases e : j = k
              · subst e; rw [unhide HBK]; exact unhide HT
              · exact unhide HK j (by omega)
            have y1 := hide (grown_atG (unhide G7) (grown_atG (unhide HGR) (unhide x1) (by have := unhide HGL; simp; omega)) (by simp))
            have y5 := hide (grown_atG (unhide G7) (grown_atG (unhide HGR) (unhide x5) (by have := unhide HGL; simp; omega)) (by simp))
            have HQ7 := hide ((unhide HQR).grown (unhide G7))
            go_wp2
            refine wp_region_noPanic ?_
            refine wp_region_tailL 20 (fun W => W.heap[s1]? = some (.cells #[.int .i64 (bw : Int), .int .i64 (bh : Int)] 48 (0, 0)) ∧ W.heap[s5]? = some (.cells #[.int .i64 (wN : Int), .int .i64 (hN : Int), .slice (some ⟨g, 0, none⟩) m m] 57 (0, 0)) ∧ W.heap[s7]? = some (.cells (tq T) 75 (0, 0))) [true, true, true, true, true, true, true, true, true, true, false] (by kernel_rfl) (fun _ _ _ _ _ h => h) rfl (by decide) (by kernel_rfl) ⟨unhide y1, unhide y5, unhide y7⟩ ?_
            have HQ8 : Hid (Blk .u16 73 w7.drew g M) := unhide HQ7
            have HD : Hid (w7.grownBy w7.drew none) := grown_drew (World.grownBy.refl _ _)
            generalize w7.drew = w8 at *
            refine heldF_take (v := .agg #[.int .i64 (wN : Int), .int .i64 (hN : Int), .slice (some ⟨g, 0, none⟩) m m]) (Or.inl ⟨by rfl, ?_⟩) ?_
            · intro w' hSw
              exact exec_row 57 _ rfl s5 rfl _ _ hSw.2.1 _ Try.underlying57 rfl (by kernel_rfl)
            try simp only [Act.put, List.setIfInBounds_toArray, List.set_cons_zero, List.set_cons_succ]
            refine heldF_take (v := ?_) (Or.inl ⟨by rfl, ?_⟩) ?_
            rotate_left 1
            · intro w' hSw
              go_simp
              try with_reducible rfl
            try simp only [Act.put, List.setIfInBounds_toArray, List.set_cons_zero, List.set_cons_succ]
            refine heldF_take (v := ?_) (Or.inl ⟨by rfl, ?_⟩) ?_
            rotate_left 1
            · intro w' hSw
              go_simp
              try with_reducible rfl
            try simp only [Act.put, List.setIfInBounds_toArray, List.set_cons_zero, List.set_cons_succ]
            refine heldF_take (v := ?_) (Or.inl ⟨by rfl, ?_⟩) ?_
            rotate_left 1
            · intro w' hSw
              have cb : w'.cell? ⟨s1, 0, none⟩ = some (.int .i64 (bw : Int)) := by rw [cell_of_row w' _ 0 _ _ (0, 0) hSw.1]; rfl
              go_simp
              try with_reducible rfl
            try simp only [Act.put, List.setIfInBounds_toArray, List.set_cons_zero, List.set_cons_succ]
            refine heldF_take (v := ?_) (Or.inl ⟨by rfl, ?_⟩) ?_
            rotate_left 1
            · intro w' hSw
              go_simp
              try with_reducible rfl
            try simp only [Act.put, List.setIfInBounds_toArray, List.set_cons_zero, List.set_cons_succ]
            refine heldF_take (v := ?_) (Or.inl ⟨by rfl, ?_⟩) ?_
            rotate_left 1
            · intro w' hSw
              go_simp
              try with_reducible rfl
            try simp only [Act.put, List.setIfInBounds_toArray, List.set_cons_zero, List.set_cons_succ]
            refine heldF_take (v := ?_) (Or.inl ⟨by rfl, ?_⟩) ?_
            rotate_left 1
            · intro w' hSw
              go_simp
              try with_reducible rfl
            try simp only [Act.put, List.setIfInBounds_toArray, List.set_cons_zero, List.set_cons_succ]
            refine heldF_take (v := ?_) (Or.inl ⟨by rfl, ?_⟩) ?_
            rotate_left 1
            · intro w' hSw
              have cb : w'.cell? ⟨s1, 0, none⟩ = some (.int .i64 (bw : Int)) := by rw [cell_of_row w' _ 0 _ _ (0, 0) hSw.1]; rfl
              go_simp
              try with_reducible rfl
            try simp only [Act.put, List.setIfInBounds_toArray, List.set_cons_zero, List.set_cons_succ]
            refine heldF_take (v := ?_) (Or.inl ⟨by rfl, ?_⟩) ?_
            rotate_left 1
            · intro w' hSw
              go_simp
              try with_reducible rfl
            try simp only [Act.put, List.setIfInBounds_toArray, List.set_cons_zero, List.set_cons_succ]
            refine heldF_take (v := .agg (tq T)) (Or.inl ⟨by rfl, ?_⟩) ?_
            · intro w' hSw
              exact exec_row 75 _ rfl s7 rfl _ _ hSw.2.2 _ Try.underlying75 rfl (by rw [unhide HTS]; kernel_rfl)
            try simp only [Act.put, List.setIfInBounds_toArray, List.set_cons_zero, List.set_cons_succ]
            refine heldF_skip ?_
            refine heldF_nil ?_
            refine tailL_skip ?_
            refine tailL_skip ?_
            refine tailL_skip ?_
            refine tailL_skip ?_
            refine tailL_skip ?_
            refine tailL_skip ?_
            refine tailL_skip ?_
            refine tailL_skip ?_
            refine tailL_skip ?_
            refine tailL_skip ?_
            refine tailL_step (fun K hK => ?_)
            go_simp
            refine (putTile wN hN g m kr kc M T hwN.1 hwN.2 (by have := unhide HHN; omega) (by have := unhide HWN; omega) HM w8 (unhide HQ8) (by rw [(unhide HJ).1]; exact unhide HM) (unhide HTL)).mono ?_
            rintro e w9 ⟨⟨v, rfl⟩, hP, g9⟩
            refine hK.out _ _ (.inl rfl) ?_
            clear hK K
            refine tailL_nil (NoPanic.normal ?_)
            try simp only [Act.put]
            obtain ⟨M', hM', hT'⟩ := hP
            have HQ9 := hide hM'
            have HJ9 : Hid (Joined B M' bw wN hN (k + 1)) := (unhide HJ).next (by omega) (unhide HWN).symm (by rw [unhide HKR, unhide HKC]; exact hT') (unhide HBK)
            have HG9 : Hid (W5.grownBy w9 (some g)) := grown_trans (unhide HGR) (grown_trans (grown_any (grown_trans (unhide G7) (unhide HD))) g9)
            clear hM' hT' g9 HQR HGR HJ
            go_wp2
            go_roundw
            case rel => exact ⟨k + 1, M', by omega, by go_num, HQ9, HJ9, HK', HG9⟩
            case measure => simp [intOf]; omega
        · obtain rfl : nb = k := by omega
          have hkd : decide ((nb : Int) < (nb : Int)) = false := decide_eq_false (by omega)
          have HAL : Hid (∀ x ∈ B, levB 0 4095 x = true) := fun x hx => by
            obtain ⟨i, hi, rfl⟩ := List.mem_iff_getElem.1 hx
            have := unhide HK i (by rw [← unhide HNB]; exact hi)
            rw [show B.getD i [] = B[i] by simp [hi]] at this
            exact this
          have HLG : Hid (M = L) := by
            unfold Hid
            rw [← unhide HL, unhide HLB, if_pos (List.all_eq_true.2 (unhide HAL))]
            have := unhide HJ
            rw [← unhide HNN] at this
            exact (this.all (unhide HWN).symm (unhide HHN).symm).symm
          have HLV : Hid (∀ v ∈ L, 0 ≤ v ∧ v ≤ 4095) := by
            unfold Hid
            rw [← unhide HL, unhide HLB, if_pos (List.all_eq_true.2 (unhide HAL))]
            exact joined_vals (unhide HAL)
          have HML : Hid (L.length = m) := by unfold Hid; rw [← unhide HLG, (unhide HJ).1, unhide HM]
          rw [unhide HLG] at HQR
          have y5 := grown_atG (unhide HGR) (unhide x5) (by have := unhide HGL; simp; omega)
          have k2 : wr.cell? ⟨s5, 2, none⟩ = some (.slice (some ⟨g, 0, none⟩) m m) := by rw [cell_of_row wr _ 2 _ _ (0, 0) y5]; rfl
          have HGW : Hid (W.grownBy wr none) := grown_new (unhide HG5) (unhide HGR) (fun q e => by simp at e; have := unhide HGL; omega)
          clear y5 HJ HK
          go_wp2_with fail
          refine (toneList 73 g m L wr (unhide HQR) (unhide HML) (by have := unhide HSM; have := unhide HM; omega) (unhide HLV)).mono ?_
          rintro e w8 ⟨so, sc, rfl, o8, g8⟩
          have hL := unhide HML
          rw [← hL] at o8 ⊢
          have HO8 := hide (own_base o8 (unhide HGW).size)
          have HG8 := hide (grown_trans (unhide HGW) g8)
          clear o8 g8 hL
          go_wp2
          go_ret
          exact ⟨_, _, rfl, unhide HO8, unhide HG8⟩

end Go.Proofs.Ytkefpjbdkhifhaa

namespace Go.Proofs.Ytkefpjbdkhifhaa
open Go.RowKit

set_option maxRecDepth 20000 in
set_option maxHeartbeats 3200000 in
theorem cropped : TurnC 67 (fun wd ht nw nh => nw ≤ wd ∧ nh ≤ ht) (fun L wd _ nw nh => cropL L wd nw nh) := by
  intro wd ht g n nw nh m L W hw hh HN hn hnw hnh HM hm hok hB hL h0
  have HL := hide hL
  have H0 := hide h0
  have HOK := hide hok
  have HGL : Hid (g < W.heap.size) := hB.lt
  obtain ⟨W0, hW0⟩ : ∃ W0, ((W.alloc (.cells #[.int .i64 (wd : Int), .int .i64 (ht : Int), .slice (some ⟨g, 0, none⟩) n n] 57)).alloc (.cells #[.int .i64 (nw : Int), .int .i64 (nh : Int)] 48)).alloc (.cells #[.int .i64 0, .int .i64 0, .slice none 0 0] 57) = W0 := ⟨_, rfl⟩
  have HG0 : Hid (W.grownBy W0 none) := by rw [← hW0]; exact grown_alloc (grown_alloc (World.grownBy_alloc _ _ _) _) _
  have b0 : Hid (W0.heap[W.heap.size]? = some (.cells #[.int .i64 (wd : Int), .int .i64 (ht : Int), .slice (some ⟨g, 0, none⟩) n n] 57 (0, 0))) := by rw [← hW0, Below.heap_alloc _ _ _ (by simp <;> omega), Below.heap_alloc _ _ _ (by simp)]; exact heap_alloc_new W _
  have b1 : Hid (W0.heap[W.heap.size + 1]? = some (.cells #[.int .i64 (nw : Int), .int .i64 (nh : Int)] 48 (0, 0))) := by
    rw [← hW0, Below.heap_alloc _ _ _ (by simp)]
    have := heap_alloc_new (W.alloc (.cells #[.int .i64 (wd : Int), .int .i64 (ht : Int), .slice (some ⟨g, 0, none⟩) n n] 57)) (.cells #[.int .i64 (nw : Int), .int .i64 (nh : Int)] 48)
    unfold Hid
    simpa using this
  have b2 : Hid (W0.heap[W.heap.size + 1 + 1]? = some (.cells #[.int .i64 0, .int .i64 0, .slice none 0 0] 57 (0, 0))) := by
    rw [← hW0]
    have := heap_alloc_new ((W.alloc (.cells #[.int .i64 (wd : Int), .int .i64 (ht : Int), .slice (some ⟨g, 0, none⟩) n n] 57)).alloc (.cells #[.int .i64 (nw : Int), .int .i64 (nh : Int)] 48)) (.cells #[.int .i64 0, .int .i64 0, .slice none 0 0] 57)
    unfold Hid
    simpa using this
  have HS0 : Hid (W0.heap.size = W.heap.size + 3) := by rw [← hW0]; simp [Hid]
  have HB0 := hide (hB.grown (unhide HG0))
  have HW := hide hW0
  obtain ⟨X, HX⟩ : ∃ X, Hid (cropL L wd nw nh = X) := ⟨_, rfl⟩
  have HXL : Hid (X.length = m) := by unfold Hid; rw [← unhide HX, ← unhide HM]; exact gridL_len _ _ _
  dsimp only
  rw [unhide HX]
  clear hW0 hB hL h0 hok
  go_enter Try.func67, Try.ntmps67
  go_wp2_with fail
  rw [unhide HW]
  refine (newTones nw nh m hnw.2 hnh.2 HM W0).mono ?_
  rintro e w1 ⟨q, rfl, hQ, hge, g1⟩
  have HQL : Hid (q < w1.heap.size) := hQ.lt
  have HGE := hide hge
  obtain ⟨W1, hW1⟩ : ∃ W1, w1.alloc (.cells #[.int .i64 (nw : Int), .int .i64 (nh : Int), .slice (some ⟨q, 0, none⟩) m m] 57) = W1 := ⟨_, rfl⟩
  have G1 : Hid (W0.grownBy W1 none) := by rw [← hW1]; exact grown_alloc g1 _
  have HQ1 : Hid (Blk .u16 73 W1 q (laidTo X 0)) := by rw [← hW1, laidTo_zero, unhide HXL]; exact hQ.grown (World.grownBy_alloc _ _ _)
  have HB1 := hide ((unhide HB0).grown (unhide G1))
  have p0 := hide (grown_atG (unhide G1) (unhide b0) (by simp))
  have p1 := hide (grown_atG (unhide G1) (unhide b1) (by simp))
  have p2 := hide (grown_atG (unhide G1) (unhide b2) (by simp))
  have p3 : Hid (W1.heap[w1.heap.size]? = some (.cells #[.int .i64 (nw : Int), .int .i64 (nh : Int), .slice (some ⟨q, 0, none⟩) m m] 57 (0, 0))) := by rw [← hW1]; exact heap_alloc_new w1 _
  have HS1 : Hid (W.heap.size + 3 ≤ w1.heap.size) := by have := g1.size; have := unhide HS0; unfold Hid; omega
  have HW1 := hide hW1
  generalize hs : W.heap.size = s at *
  have HS := hide hs
  clear hs
  have c0 : W1.cell? ⟨s, 0, none⟩ = some (.int .i64 (wd : Int)) := by rw [cell_of_row W1 _ 0 _ _ (0, 0) (unhide p0)]; rfl
  have c1 : W1.cell? ⟨s, 1, none⟩ = some (.int .i64 (ht : Int)) := by rw [cell_of_row W1 _ 1 _ _ (0, 0) (unhide p0)]; rfl
  have c2 : W1.cell? ⟨s + 1, 0, none⟩ = some (.int .i64 (nw : Int)) := by rw [cell_of_row W1 _ 0 _ _ (0, 0) (unhide p1)]; rfl
  have c3 : W1.cell? ⟨s + 1, 1, none⟩ = some (.int .i64 (nh : Int)) := by rw [cell_of_row W1 _ 1 _ _ (0, 0) (unhide p1)]; rfl
  have d2 : (w1.alloc (.cells #[.int .i64 (nw : Int), .int .i64 (nh : Int), .slice (some ⟨q, 0, none⟩) m m] 57)).cell? ⟨s + 1, 0, none⟩ = some (.int .i64 (nw : Int)) := by rw [unhide HW1]; exact c2
  have d3 : (w1.alloc (.cells #[.int .i64 (nw : Int), .int .i64 (nh : Int), .slice (some ⟨q, 0, none⟩) m m] 57)).cell? ⟨s + 1, 1, none⟩ = some (.int .i64 (nh : Int)) := by rw [unhide HW1]; exact c3
  clear hQ hge g1 hW1 HB0 HW b0 b1 b2
  go_wp2
  rw [unhide HW1]
  generalize hs1 : w1.heap.size = s1 at *
  clear hs1 HW1 d2 d3
  have HQS : Hid (s + 3 ≤ q) := by have := unhide HGE; have := unhide HS0; unfold Hid; omega
  go_loopw [11] (fun rv wr => ∃ (r k : Nat), r ≤ nh ∧ rv = .int .i64 r ∧ Hid (r * nw = k) ∧ Hid (Blk .u16 73 wr q (laidTo X k)) ∧ Hid (W1.grownBy wr (some q))) (fun rv _ => nh - (intOf rv).toNat)
  case atStart => exact ⟨0, 0, by omega, by go_num, by simp [Hid], HQ1, World.grownBy.refl _ _⟩
  case round =>
    obtain ⟨r, k, hr, rfl, HK, HQR, HGR⟩ := hrel
    by_cases hlt : r < nh
    · have hrI : (r : Int) < (nh : Int) := by omega
      have e1 := i64_in ((r : Int) + 1) (by omega)
      have hok := unhide HOK
      obtain ⟨lo, HLO⟩ : ∃ lo : Nat, Hid (r * wd = lo) := ⟨_, rfl⟩
      have hkx := row_end (w := nw) hlt
      have hlx := row_end (w := wd) (show r < ht by omega)
      rw [Nat.mul_comm nh nw, unhide HK, unhide HM] at hkx
      rw [Nat.mul_comm ht wd, unhide HLO, unhide HN] at hlx
      have HBR := hide ((unhide HB1).beside (unhide HGR) (by have := unhide HGL; have := unhide HQS; simp; omega))
      have x0 := hide (grown_atG (unhide HGR) (unhide p0) (by have := unhide HQS; simp; omega))
      have x3 := hide (grown_atG (unhide HGR) (unhide p3) (by have := unhide HQL; simp; omega))
      have HSP : Hid (spliceL (laidTo X k) ((L.drop lo).take nw) k = laidTo X (k + nw)) := by
        have hsl : ((L.drop lo).take nw).length = nw := by have := unhide HL; simp; omega
        have h1 := laidTo_splice X ((L.drop lo).take nw) k (by rw [hsl, unhide HXL]; exact hkx) (by
          rw [hsl, ← unhide HX, cropL, ← unhide HK, grid_row _ hlt]
          refine List.ext_getElem (by rw [hsl]; simp) (fun i h1 h2 => ?_)
          have hi : i < nw := by simpa using h2
          have : lo + i < L.length := by have := unhide HL; omega
          simp [unhide HLO, this])
        rw [hsl] at h1
        exact h1
      go_wp2
      refine wp_region_noPanic ?_
      refine wp_region_tailL 20 (fun W => W.heap[s]? = some (.cells #[.int .i64 (wd : Int), .int .i64 (ht : Int), .slice (some ⟨g, 0, none⟩) n n] 57 (0, 0)) ∧ W.heap[s1]? = some (.cells #[.int .i64 (nw : Int), .int .i64 (nh : Int), .slice (some ⟨q, 0, none⟩) m m] 57 (0, 0))) [true, true, true, false, true, true, true, false, false] (by kernel_rfl) (fun _ _ _ _ _ h => h) rfl (by decide) (by kernel_rfl) ⟨unhide x0, unhide x3⟩ ?_
      have x0 : Hid (wr.drew.heap[s]? = _) := unhide x0
      have x3 : Hid (wr.drew.heap[s1]? = _) := unhide x3
      have HQR : Hid (Blk .u16 73 wr.drew q (laidTo X k)) := unhide HQR
      have HBR : Hid (Blk .u16 73 wr.drew g L) := unhide HBR
      have HD : Hid (wr.grownBy wr.drew none) := grown_drew (World.grownBy.refl _ _)
      generalize wr.drew = w4 at *
      refine heldF_take (v := ?_) (Or.inl ⟨by rfl, ?_⟩) ?_
      rotate_left 1
      · intro w' hSw
        go_simp
        try with_reducible rfl
      try simp only [Act.put, List.setIfInBounds_toArray, List.set_cons_zero, List.set_cons_succ]
      refine heldF_take (v := .agg #[.int .i64 (nw : Int), .int .i64 (nh : Int), .slice (some ⟨q, 0, none⟩) m m]) (Or.inl ⟨by rfl, ?_⟩) ?_
      · intro w' hSw
        exact exec_row 55 _ rfl s1 rfl _ _ hSw.2 _ Try.underlying55 rfl (by kernel_rfl)
      try simp only [Act.put, List.setIfInBounds_toArray, List.set_cons_zero, List.set_cons_succ]
      refine heldF_take (v := ?_) (Or.inl ⟨by rfl, ?_⟩) ?_
      rotate_left 1
      · intro w' hSw
        go_simp
        try with_reducible rfl
      try simp only [Act.put, List.setIfInBounds_toArray, List.set_cons_zero, List.set_cons_succ]
      refine heldF_skip ?_
      refine heldF_take (v := ?_) (Or.inl ⟨by rfl, ?_⟩) ?_
      rotate_left 1
      · intro w' hSw
        go_simp
        try with_reducible rfl
      try simp only [Act.put, List.setIfInBounds_toArray, List.set_cons_zero, List.set_cons_succ]
      refine heldF_take (v := .agg #[.int .i64 (wd : Int), .int .i64 (ht : Int), .slice (some ⟨g, 0, none⟩) n n]) (Or.inl ⟨by rfl, ?_⟩) ?_
      · intro w' hSw
        exact exec_row 55 _ rfl s rfl _ _ hSw.1 _ Try.underlying55 rfl (by kernel_rfl)
      try simp only [Act.put, List.setIfInBounds_toArray, List.set_cons_zero, List.set_cons_succ]
      refine heldF_take (v := ?_) (Or.inl ⟨by rfl, ?_⟩) ?_
      rotate_left 1
      · intro w' hSw
        go_simp
        try with_reducible rfl
      try simp only [Act.put, List.setIfInBounds_toArray, List.set_cons_zero, List.set_cons_succ]
      refine heldF_skip ?_
      refine heldF_skip ?_
      refine heldF_nil ?_
      refine tailL_skip ?_
      refine tailL_skip ?_
      refine tailL_skip ?_
      refine tailL_step (fun K hK => ?_)
      go_simp
      refine (toneRow nw nh q m r k hnw hnh.2 hlt HM HK w4).mono ?_
      rintro e w5 ⟨rfl, g5⟩
      refine hK.out _ _ (.inr ⟨grown_atG g5 (unhide x0) (by simp), grown_atG g5 (unhide x3) (by simp)⟩) ?_
      clear hK K
      try simp only [Act.put, List.setIfInBounds_toArray, List.set_cons_zero, List.set_cons_succ]
      refine tailL_skip ?_
      refine tailL_skip ?_
      refine tailL_skip ?_
      refine tailL_step (fun K hK => ?_)
      go_simp
      refine (toneRow wd ht g n r lo hw hh.2 (by omega) HN HLO w5).mono ?_
      rintro e w6 ⟨rfl, g6⟩
      refine hK.out _ _ (.inr ⟨grown_atG (grown_trans g5 g6) (unhide x0) (by simp), grown_atG (grown_trans g5 g6) (unhide x3) (by simp)⟩) ?_
      clear hK K
      try simp only [Act.put, List.setIfInBounds_toArray, List.set_cons_zero, List.set_cons_succ]
      refine tailL_step (fun K hK => ?_)
      refine step_copyB rfl _ _ _ _ rfl 73 Try.underlying53 (by kernel_rfl) q k nw _ g lo wd _ rfl rfl .u16 73 (laidTo X k) ((unhide HQR).grown (grown_trans g5 g6)) ((L.drop lo).take nw) nw (by simp [Nat.min_def]; omega) (((unhide HBR).grown (grown_trans g5 g6)).rd lo nw (by have := unhide HL; omega)) (by rw [laidTo_len X k (by have := unhide HXL; omega), unhide HXL]; exact hkx) _ (unhide HSP) ?_
      intro w7 hQ7 g7
      refine hK.out _ _ (.inl rfl) ?_
      clear hK K
      refine tailL_nil (NoPanic.normal ?_)
      try simp only [Act.put]
      have HK' : Hid ((r + 1) * nw = k + nw) := by unfold Hid; rw [Nat.add_mul, Nat.one_mul, unhide HK]
      have HGR' : Hid (W1.grownBy w7 (some q)) := grown_trans (unhide HGR) (grown_trans (grown_any (grown_trans (unhide HD) (grown_trans g5 g6))) g7)
      have HQ7 := hide hQ7
      clear hQ7 g5 g6 g7 HQR HGR HBR HSP
      go_wp2
      go_roundw
      case rel => exact ⟨r + 1, k + nw, by omega, by go_num, HK', HQ7, HGR'⟩
      case measure => simp [intOf]; omega
    · obtain rfl : nh = r := by omega
      have HALL : Hid (laidTo X k = X) := by unfold Hid; rw [← unhide HK, Nat.mul_comm nh nw, unhide HM, ← unhide HXL]; exact laidTo_all X
      have HO2 := hide (grown_atG (unhide HGR) (unhide p2) (by have := unhide HQS; simp; omega))
      have HO3 := hide (grown_atG (unhide HGR) (unhide p3) (by have := unhide HQL; simp; omega))
      rw [unhide HALL] at HQR
      go_wp2_with (first | (refine load_row rfl 57 _ rfl s1 rfl #[.int .i64 (nw : Int), .int .i64 (nh : Int), .slice (some ⟨q, 0, none⟩) m m] 57 (unhide HO3) _ Try.underlying57 rfl (by kernel_rfl) ?_) | (refine store_row rfl 57 _ _ rfl (s + 1 + 1) rfl #[.int .i64 (nw : Int), .int .i64 (nh : Int), .slice (some ⟨q, 0, none⟩) m m] rfl _ 57 (unhide HO2) rfl (by kernel_rfl) (by simp [Value.oneCell']) ?_; intro w9 hB9 g9))
      refine bodyPost_ret (v := .agg #[.int .i64 (nw : Int), .int .i64 (nh : Int), .slice (some ⟨q, 0, none⟩) m m]) ?_ rfl ⟨q, rfl, (unhide HQR).beside g9 (by have := unhide HQS; simp; omega), ?_⟩
      · rw [results_c1 rfl]
        exact run_loadVar_row w9 _ 57 57 _ (0, 0) _ hB9 Try.underlying57 rfl (by kernel_rfl)
      · exact grown_new (grown_new (grown_trans (unhide HG0) (unhide G1)) (unhide HGR) (fun k e => by simp at e; have := unhide HS; have := unhide HQS; omega)) g9 (fun k e => by simp at e; have := unhide HS; omega)

end Go.Proofs.Ytkefpjbdkhifhaa

namespace Go.Proofs.Ytkefpjbdkhifhaa
open Go.RowKit

set_option maxRecDepth 20000 in
set_option maxHeartbeats 3200000 in
theorem padded : TurnC 65 (fun wd ht nw nh => wd ≤ nw ∧ ht ≤ nh) (fun L wd ht nw nh => padL L wd ht nw nh) := by
  intro wd ht g n nw nh m L W hw hh HN hn hnw hnh HM hm hok hB hL h0
  have HL := hide hL
  have H0 := hide h0
  have HOK := hide hok
  have HGL : Hid (g < W.heap.size) := hB.lt
  obtain ⟨W0, hW0⟩ : ∃ W0, ((W.alloc (.cells #[.int .i64 (wd : Int), .int .i64 (ht : Int), .slice (some ⟨g, 0, none⟩) n n] 57)).alloc (.cells #[.int .i64 (nw : Int), .int .i64 (nh : Int)] 48)).alloc (.cells #[.int .i64 0, .int .i64 0, .slice none 0 0] 57) = W0 := ⟨_, rfl⟩
  have HG0 : Hid (W.grownBy W0 none) := by rw [← hW0]; exact grown_alloc (grown_alloc (World.grownBy_alloc _ _ _) _) _
  have b0 : Hid (W0.heap[W.heap.size]? = some (.cells #[.int .i64 (wd : Int), .int .i64 (ht : Int), .slice (some ⟨g, 0, none⟩) n n] 57 (0, 0))) := by rw [← hW0, Below.heap_alloc _ _ _ (by simp <;> omega), Below.heap_alloc _ _ _ (by simp)]; exact heap_alloc_new W _
  have b1 : Hid (W0.heap[W.heap.size + 1]? = some (.cells #[.int .i64 (nw : Int), .int .i64 (nh : Int)] 48 (0, 0))) := by
    rw [← hW0, Below.heap_alloc _ _ _ (by simp)]
    have := heap_alloc_new (W.alloc (.cells #[.int .i64 (wd : Int), .int .i64 (ht : Int), .slice (some ⟨g, 0, none⟩) n n] 57)) (.cells #[.int .i64 (nw : Int), .int .i64 (nh : Int)] 48)
    unfold Hid
    simpa using this
  have b2 : Hid (W0.heap[W.heap.size + 1 + 1]? = some (.cells #[.int .i64 0, .int .i64 0, .slice none 0 0] 57 (0, 0))) := by
    rw [← hW0]
    have := heap_alloc_new ((W.alloc (.cells #[.int .i64 (wd : Int), .int .i64 (ht : Int), .slice (some ⟨g, 0, none⟩) n n] 57)).alloc (.cells #[.int .i64 (nw : Int), .int .i64 (nh : Int)] 48)) (.cells #[.int .i64 0, .int .i64 0, .slice none 0 0] 57)
    unfold Hid
    simpa using this
  have HS0 : Hid (W0.heap.size = W.heap.size + 3) := by rw [← hW0]; simp [Hid]
  have HB0 := hide (hB.grown (unhide HG0))
  have HW := hide hW0
  obtain ⟨X, HX⟩ : ∃ X, Hid (padL L wd ht nw nh = X) := ⟨_, rfl⟩
  have HXL : Hid (X.length = m) := by unfold Hid; rw [← unhide HX, ← unhide HM]; exact gridL_len _ _ _
  dsimp only
  rw [unhide HX]
  clear hW0 hB hL h0 hok
  go_enter Try.func65, Try.ntmps65
  go_wp2_with fail
  rw [unhide HW]
  refine (newTones nw nh m hnw.2 hnh.2 HM W0).mono ?_
  rintro e w1 ⟨q, rfl, hQ, hge, g1⟩
  have HQL : Hid (q < w1.heap.size) := hQ.lt
  have HGE := hide hge
  obtain ⟨W1, hW1⟩ : ∃ W1, w1.alloc (.cells #[.int .i64 (nw : Int), .int .i64 (nh : Int), .slice (some ⟨q, 0, none⟩) m m] 57) = W1 := ⟨_, rfl⟩
  have G1 : Hid (W0.grownBy W1 none) := by rw [← hW1]; exact grown_alloc g1 _
  have HQ1 : Hid (Blk .u16 73 W1 q (laidTo X 0)) := by rw [← hW1, laidTo_zero, unhide HXL]; exact hQ.grown (World.grownBy_alloc _ _ _)
  have HB1 := hide ((unhide HB0).grown (unhide G1))
  have p0 := hide (grown_atG (unhide G1) (unhide b0) (by simp))
  have p1 := hide (grown_atG (unhide G1) (unhide b1) (by simp))
  have p2 := hide (grown_atG (unhide G1) (unhide b2) (by simp))
  have p3 : Hid (W1.heap[w1.heap.size]? = some (.cells #[.int .i64 (nw : Int), .int .i64 (nh : Int), .slice (some ⟨q, 0, none⟩) m m] 57 (0, 0))) := by rw [← hW1]; exact heap_alloc_new w1 _
  have HS1 : Hid (W.heap.size + 3 ≤ w1.heap.size) := by have := g1.size; have := unhide HS0; unfold Hid; omega
  have HW1 := hide hW1
  generalize hs : W.heap.size = s at *
  have HS := hide hs
  clear hs
  have c0 : W1.cell? ⟨s, 0, none⟩ = some (.int .i64 (wd : Int)) := by rw [cell_of_row W1 _ 0 _ _ (0, 0) (unhide p0)]; rfl
  have c1 : W1.cell? ⟨s, 1, none⟩ = some (.int .i64 (ht : Int)) := by rw [cell_of_row W1 _ 1 _ _ (0, 0) (unhide p0)]; rfl
  have c2 : W1.cell? ⟨s + 1, 0, none⟩ = some (.int .i64 (nw : Int)) := by rw [cell_of_row W1 _ 0 _ _ (0, 0) (unhide p1)]; rfl
  have c3 : W1.cell? ⟨s + 1, 1, none⟩ = some (.int .i64 (nh : Int)) := by rw [cell_of_row W1 _ 1 _ _ (0, 0) (unhide p1)]; rfl
  have d2 : (w1.alloc (.cells #[.int .i64 (nw : Int), .int .i64 (nh : Int), .slice (some ⟨q, 0, none⟩) m m] 57)).cell? ⟨s + 1, 0, none⟩ = some (.int .i64 (nw : Int)) := by rw [unhide HW1]; exact c2
  have d3 : (w1.alloc (.cells #[.int .i64 (nw : Int), .int .i64 (nh : Int), .slice (some ⟨q, 0, none⟩) m m] 57)).cell? ⟨s + 1, 1, none⟩ = some (.int .i64 (nh : Int)) := by rw [unhide HW1]; exact c3
  clear hQ hge g1 hW1 HB0 HW b0 b1 b2
  go_wp2
  rw [unhide HW1]
  generalize hs1 : w1.heap.size = s1 at *
  clear hs1 HW1 d2 d3
  have HQS : Hid (s + 3 ≤ q) := by have := unhide HGE; have := unhide HS0; unfold Hid; omega
  go_loopw [14] (fun rv wr => ∃ (r k : Nat), r ≤ nh ∧ rv = .int .i64 r ∧ Hid (r * nw = k) ∧ Hid (Blk .u16 73 wr q (laidTo X k)) ∧ Hid (W1.grownBy wr (some q))) (fun rv _ => nh - (intOf rv).toNat)
  case atStart => exact ⟨0, 0, by omega, by go_num, by simp [Hid], HQ1, World.grownBy.refl _ _⟩
  case round =>
    obtain ⟨r, k, hr, rfl, HK, HQR, HGR⟩ := hrel
    by_cases hlt : r < nh
    · have hrI : (r : Int) < (nh : Int) := by omega
      have e1 := i64_in ((r : Int) + 1) (by omega)
      have hok := unhide HOK
      obtain ⟨ry, HRY⟩ : ∃ y : Nat, Hid (min r (ht - 1) = y) := ⟨_, rfl⟩
      have hry : ry < ht := by have := unhide HRY; omega
      have e2 := i64_in ((ht : Int) - 1) (by omega)
      have e3 : (if (ht : Int) - 1 < (r : Int) then (ht : Int) - 1 else (r : Int)) = (ry : Int) := by have := unhide HRY; split <;> omega
      obtain ⟨lo, HLO⟩ : ∃ lo : Nat, Hid (ry * wd = lo) := ⟨_, rfl⟩
      have hkx := row_end (w := nw) hlt
      have hlx := row_end (w := wd) hry
      rw [Nat.mul_comm nh nw, unhide HK, unhide HM] at hkx
      rw [Nat.mul_comm ht wd, unhide HLO, unhide HN] at hlx
      have HBR := hide ((unhide HB1).beside (unhide HGR) (by have := unhide HGL; have := unhide HQS; simp; omega))
      have x0 := hide (grown_atG (unhide HGR) (unhide p0) (by have := unhide HQS; simp; omega))
      have x1 := hide (grown_atG (unhide HGR) (unhide p1) (by have := unhide HQS; simp; omega))
      have x3 := hide (grown_atG (unhide HGR) (unhide p3) (by have := unhide HQL; simp; omega))
      have HAT : Hid (∀ x, x < nw → X.getD (k + x) 0 = L.getD (lo + min x (wd - 1)) 0) := fun x hx => by
        rw [← unhide HX, padL, ← unhide HK, gridL_at _ hlt hx, unhide HRY, unhide HLO]
      have HSP : Hid (spliceL (laidTo X k) ((L.drop lo).take wd) k = laidTo X (k + wd)) := by
        have hsl : ((L.drop lo).take wd).length = wd := by have := unhide HL; simp; omega
        have h1 := laidTo_splice X ((L.drop lo).take wd) k (by rw [hsl, unhide HXL]; omega) (by
          rw [hsl]
          refine List.ext_getElem (by rw [hsl]; simp; have := unhide HXL; omega) (fun i h1 h2 => ?_)
          have hi : i < wd := by rw [hsl] at h1; exact h1
          have h3 : lo + i < L.length := by have := unhide HL; omega
          have h4 : k + i < X.length := by have := unhide HXL; omega
          have h5 := unhide HAT i (by omega)
          rw [show min i (wd - 1) = i by omega] at h5
          simp [h3, h4] at h5 ⊢
          exact h5.symm)
        rw [hsl] at h1
        exact h1
      go_wp2
      refine wp_region_noPanic ?_
      refine wp_region_tail (fun W => W.heap[s]? = some (.cells #[.int .i64 (wd : Int), .int .i64 (ht : Int), .slice (some ⟨g, 0, none⟩) n n] 57 (0, 0)) ∧ W.heap[s1]? = some (.cells #[.int .i64 (nw : Int), .int .i64 (nh : Int), .slice (some ⟨q, 0, none⟩) m m] 57 (0, 0))) [true, true, true, false, true, true, true, true, true, true, true, true, true, false, false, false] (by kernel_rfl) (fun _ _ _ _ _ h => h) rfl (by kernel_rfl) ⟨unhide x0, unhide x3⟩ ?_
      have x0 : Hid (wr.drew.heap[s]? = _) := unhide x0
      have y1 := x1
      have x1 : Hid (wr.drew.heap[s + 1]? = _) := unhide x1
      have x3 : Hid (wr.drew.heap[s1]? = _) := unhide x3
      have HQR : Hid (Blk .u16 73 wr.drew q (laidTo X k)) := unhide HQR
      have HBR : Hid (Blk .u16 73 wr.drew g L) := unhide HBR
      have HD : Hid (wr.grownBy wr.drew none) := grown_drew (World.grownBy.refl _ _)
      generalize wr.drew = w4 at *
      refine heldF_take (v := ?_) (Or.inl ⟨by rfl, ?_⟩) ?_
      rotate_left 1
      · intro w' hSw
        go_simp
        try with_reducible rfl
      try simp only [Act.put, List.setIfInBounds_toArray, List.set_cons_zero, List.set_cons_succ]
      refine heldF_take (v := .agg #[.int .i64 (nw : Int), .int .i64 (nh : Int), .slice (some ⟨q, 0, none⟩) m m]) (Or.inl ⟨by rfl, ?_⟩) ?_
      · intro w' hSw
        exact exec_row 55 _ rfl s1 rfl _ _ hSw.2 _ Try.underlying55 rfl (by kernel_rfl)
      try simp only [Act.put, List.setIfInBounds_toArray, List.set_cons_zero, List.set_cons_succ]
      refine heldF_take (v := ?_) (Or.inl ⟨by rfl, ?_⟩) ?_
      rotate_left 1
      · intro w' hSw
        go_simp
        try with_reducible rfl
      try simp only [Act.put, List.setIfInBounds_toArray, List.set_cons_zero, List.set_cons_succ]
      refine heldF_skip ?_
      refine heldF_take (v := ?_) (Or.inl ⟨by rfl, ?_⟩) ?_
      rotate_left 1
      · intro w' hSw
        go_simp
        try with_reducible rfl
      try simp only [Act.put, List.setIfInBounds_toArray, List.set_cons_zero, List.set_cons_succ]
      refine heldF_take (v := .agg #[.int .i64 (wd : Int), .int .i64 (ht : Int), .slice (some ⟨g, 0, none⟩) n n]) (Or.inl ⟨by rfl, ?_⟩) ?_
      · intro w' hSw
        exact exec_row 55 _ rfl s rfl _ _ hSw.1 _ Try.underlying55 rfl (by kernel_rfl)
      try simp only [Act.put, List.setIfInBounds_toArray, List.set_cons_zero, List.set_cons_succ]
      refine heldF_take (v := ?_) (Or.inl ⟨by rfl, ?_⟩) ?_
      rotate_left 1
      · intro w' hSw
        go_simp
        try with_reducible rfl
      try simp only [Act.put, List.setIfInBounds_toArray, List.set_cons_zero, List.set_cons_succ]
      refine heldF_take (v := ?_) (Or.inl ⟨by rfl, ?_⟩) ?_
      rotate_left 1
      · intro w' hSw
        go_simp
        try with_reducible rfl
      try simp only [Act.put, List.setIfInBounds_toArray, List.set_cons_zero, List.set_cons_succ]
      refine heldF_take (v := ?_) (Or.inl ⟨by rfl, ?_⟩) ?_
      rotate_left 1
      · intro w' hSw
        go_simp
        try with_reducible rfl
      try simp only [Act.put, List.setIfInBounds_toArray, List.set_cons_zero, List.set_cons_succ]
      refine heldF_take (v := ?_) (Or.inl ⟨by rfl, ?_⟩) ?_
      rotate_left 1
      · intro w' hSw
        go_simp
        try with_reducible rfl
      try simp only [Act.put, List.setIfInBounds_toArray, List.set_cons_zero, List.set_cons_succ]
      refine heldF_take (v := ?_) (Or.inl ⟨by rfl, ?_⟩) ?_
      rotate_left 1
      · intro w' hSw
        have cc : w'.cell? ⟨s, 1, none⟩ = some (.int .i64 (ht : Int)) := by rw [cell_of_row w' _ 1 _ _ (0, 0) hSw.1]; rfl
        go_simp
        try with_reducible rfl
      try simp only [Act.put, List.setIfInBounds_toArray, List.set_cons_zero, List.set_cons_succ]
      refine heldF_take (v := ?_) (Or.inl ⟨by rfl, ?_⟩) ?_
      rotate_left 1
      · intro w' hSw
        go_simp
        try with_reducible rfl
      try simp only [Act.put, List.setIfInBounds_toArray, List.set_cons_zero, List.set_cons_succ]
      refine heldF_take (v := ?_) (Or.inl ⟨by rfl, ?_⟩) ?_
      rotate_left 1
      · intro w' hSw
        go_simp
        try with_reducible rfl
      try simp only [Act.put, List.setIfInBounds_toArray, List.set_cons_zero, List.set_cons_succ]
      refine heldF_skip ?_
      refine heldF_skip ?_
      refine heldF_skip ?_
      refine heldF_nil ?_
      refine tailF_skip ?_
      refine tailF_skip ?_
      refine tailF_skip ?_
      refine tailF_step (fun K hK => ?_)
      go_simp
      refine (toneRow nw nh q m r k hnw hnh.2 hlt HM HK w4).mono ?_
      rintro e w5 ⟨rfl, g5⟩
      refine hK.out _ _ ⟨grown_atG g5 (unhide x0) (by simp), grown_atG g5 (unhide x3) (by simp)⟩ ?_
      clear hK K
      try simp only [Act.put, List.setIfInBounds_toArray, List.set_cons_zero, List.set_cons_succ]
      refine tailF_skip ?_
      refine tailF_skip ?_
      refine tailF_skip ?_
      refine tailF_skip ?_
      refine tailF_skip ?_
      refine tailF_skip ?_
      refine tailF_skip ?_
      refine tailF_skip ?_
      refine tailF_skip ?_
      refine tailF_step (fun K hK => ?_)
      go_simp
      refine (toneRow wd ht g n ry lo hw hh.2 hry HN HLO w5).mono ?_
      rintro e w6 ⟨rfl, g6⟩
      refine hK.out _ _ ⟨grown_atG (grown_trans g5 g6) (unhide x0) (by simp), grown_atG (grown_trans g5 g6) (unhide x3) (by simp)⟩ ?_
      clear hK K
      try simp only [Act.put, List.setIfInBounds_toArray, List.set_cons_zero, List.set_cons_succ]
      refine tailF_step (fun K hK => ?_)
      go_simp
      refine hK.out _ _ ⟨grown_atG (grown_trans g5 g6) (unhide x0) (by simp), grown_atG (grown_trans g5 g6) (unhide x3) (by simp)⟩ ?_
      clear hK K
      try simp only [Act.put, List.setIfInBounds_toArray, List.set_cons_zero, List.set_cons_succ]
      refine tailF_step (fun K hK => ?_)
      go_simp
      refine hK.out _ _ ⟨grown_atG (grown_trans g5 g6) (unhide x0) (by simp), grown_atG (grown_trans g5 g6) (unhide x3) (by simp)⟩ ?_
      clear hK K
      try simp only [Act.put, List.setIfInBounds_toArray, List.set_cons_zero, List.set_cons_succ]
      refine tailF_nil (NoPanic.normal ?_)
      try simp only [Act.put]
      have HD5 : Hid (wr.grownBy w6 none) := grown_trans (unhide HD) (grown_trans g5 g6)
      have HQ6 := hide ((unhide HQR).grown (grown_trans g5 g6))
      have HR6 := hide (((unhide HBR).grown (grown_trans g5 g6)).rd lo wd (by have := unhide HL; omega))
      have hdc : Nat.min wd nw = wd := by simp [Nat.min_def]; omega
      have HFIT : Hid (k + wd ≤ (laidTo X k).length) := by unfold Hid; rw [laidTo_len X k (by have := unhide HXL; omega), unhide HXL]; omega
      have Y1 := hide (grown_atG (unhide HD5) (unhide y1) (by simp))
      go_wp2_with ((refine wpList_copyB rfl _ _ _ _ rfl 73 Try.underlying53 (by kernel_rfl) q k nw _ g lo wd _ rfl rfl .u16 73 (laidTo X k) (unhide HQ6) ((L.drop lo).take wd) wd hdc (unhide HR6) (unhide HFIT) _ (unhide HSP) ?_; intro w7 hQ7 g7))
      have HQ7 := hide hQ7
      have HG7 : Hid (W1.grownBy w7 (some q)) := grown_trans (unhide HGR) (grown_trans (grown_any (unhide HD5)) g7)
      clear hQ7 g7 HQ6 HR6 HFIT Y1 HQR HBR HSP x0 x1 x3 y1 HD HD5 g5 g6 hdc
      go_loopw [9] (fun cv wx => ∃ (c : Nat), (wd ≤ c ∧ c ≤ nw) ∧ cv = .int .i64 c ∧ Hid (Blk .u16 73 wx q (laidTo X (k + c))) ∧ Hid (W1.grownBy wx (some q))) (fun cv _ => nw - (intOf cv).toNat)
      case atStart => exact ⟨wd, by omega, by go_num, HQ7, HG7⟩
      case round =>
        clear HQ7 HG7 HGR
        obtain ⟨c, hc, rfl, HQR, HGR⟩ := hrel
        obtain ⟨wx, HWX⟩ : ∃ wx, Hid (wx = wr) := ⟨_, rfl⟩
        have y1 := grown_atG (unhide HGR) (unhide p1) (by have := unhide HQS; simp; omega)
        have cy : wr.cell? ⟨s + 1, 0, none⟩ = some (.int .i64 (nw : Int)) := by rw [cell_of_row wr _ 0 _ _ (0, 0) y1]; rfl
        clear y1
        by_cases hcl : c < nw
        · have hcI : (c : Int) < (nw : Int) := by omega
          have f1 := i64_in ((c : Int) + 1) (by omega)
          have f2 := i64_in ((wd : Int) - 1) (by omega)
          have y0 := grown_atG (unhide HGR) (unhide p0) (by have := unhide HQS; simp; omega)
          have cx : wr.cell? ⟨s, 0, none⟩ = some (.int .i64 (wd : Int)) := by rw [cell_of_row wr _ 0 _ _ (0, 0) y0]; rfl
          obtain ⟨z, HZ⟩ : ∃ z, Hid (L.getD (lo + (wd - 1)) 0 = z) := ⟨_, rfl⟩
          have HBR := (unhide HB1).beside (unhide HGR) (by have := unhide HGL; have := unhide HQS; simp; omega)
          have ck := HBR.cell (lo + (wd - 1)) (by have := unhide HL; omega)
          rw [unhide HZ] at ck
          obtain ⟨wl, rfl⟩ : ∃ j : Nat, wd = j + 1 := ⟨wd - 1, by omega⟩
          have f3 : (((wl + 1 : Nat) : Int) - 1) = (wl : Int) := by omega
          have f4 : lo + (wl + 1 - 1) = lo + wl := by omega
          rw [f4] at ck
          rw [f3] at f2
          have f5 : (0 : Int) ≤ (wl : Int) := by omega
          have f6 : (wl : Int) < ((wl + 1 : Nat) : Int) := by omega
          have HLK : Hid ((laidTo X (k + c)).length = m) := by unfold Hid; rw [laidTo_len X (k + c) (by have := unhide HXL; omega), unhide HXL]
          have cq := (unhide HQR).cell (k + c) (by rw [unhide HLK]; omega)
          have fq := (unhide HQR).frozen (k + c)
          have HQ' : Hid (Blk .u16 73 (wr.setCell ⟨q, k + c, none⟩ (.int .u16 z)) q (laidTo X (k + (c + 1)))) := by
            unfold Hid
            rw [← Nat.add_assoc, ← laidTo_set X (k + c) (by have := unhide HXL; omega) z (by rw [unhide HAT c hcl, ← unhide HZ, show min c (wl + 1 - 1) = wl + 1 - 1 by omega])]
            exact (unhide HQR).set (k + c) z
          have HG' := hide (grown_trans (unhide HGR) (grown_set wr q (k + c) (.int .u16 z)))
          clear y0 HBR f4
          go_wp2
          go_roundw
          case rel => exact ⟨c + 1, by omega, by go_num, HQ', HG'⟩
          case measure => simp [intOf]; omega
        · obtain rfl : nw = c := by omega
          have hcd : decide ((nw : Int) < (nw : Int)) = false := decide_eq_false (by omega)
          have HK' : Hid ((r + 1) * nw = k + nw) := by unfold Hid; rw [Nat.add_mul, Nat.one_mul, unhide HK]
          go_wp2
          go_roundw
          case rel => exact ⟨r + 1, k + nw, by omega, by go_num, HK', HQR, HGR⟩
          case measure => simp [intOf]; omega
    · obtain rfl : nh = r := by omega
      have HALL : Hid (laidTo X k = X) := by unfold Hid; rw [← unhide HK, Nat.mul_comm nh nw, unhide HM, ← unhide HXL]; exact laidTo_all X
      have HO2 := hide (grown_atG (unhide HGR) (unhide p2) (by have := unhide HQS; simp; omega))
      have HO3 := hide (grown_atG (unhide HGR) (unhide p3) (by have := unhide HQL; simp; omega))
      rw [unhide HALL] at HQR
      go_wp2_with (first | (refine load_row rfl 57 _ rfl s1 rfl #[.int .i64 (nw : Int), .int .i64 (nh : Int), .slice (some ⟨q, 0, none⟩) m m] 57 (unhide HO3) _ Try.underlying57 rfl (by kernel_rfl) ?_) | (refine store_row rfl 57 _ _ rfl (s + 1 + 1) rfl #[.int .i64 (nw : Int), .int .i64 (nh : Int), .slice (some ⟨q, 0, none⟩) m m] rfl _ 57 (unhide HO2) rfl (by kernel_rfl) (by simp [Value.oneCell']) ?_; intro w9 hB9 g9))
      refine bodyPost_ret (v := .agg #[.int .i64 (nw : Int), .int .i64 (nh : Int), .slice (some ⟨q, 0, none⟩) m m]) ?_ rfl ⟨q, rfl, (unhide HQR).beside g9 (by have := unhide HQS; simp; omega), ?_⟩
      · rw [results_c1 rfl]
        exact run_loadVar_row w9 _ 57 57 _ (0, 0) _ hB9 Try.underlying57 rfl (by kernel_rfl)
      · exact grown_new (grown_new (grown_trans (unhide HG0) (unhide G1)) (unhide HGR) (fun k e => by simp at e; have := unhide HS; have := unhide HQS; omega)) g9 (fun k e => by simp at e; have := unhide HS; omega)

end Go.Proofs.Ytkefpjbdkhifhaa

namespace Go.Proofs.Ytkefpjbdkhifhaa
open Go.RowKit

theorem divUp16 (n d u : Nat) (hn : 1 ≤ n ∧ n ≤ 4000000) (hd : 1 ≤ d ∧ d ≤ 4000000) (hu : Hid ((n + d - 1) / d = u)) (w : World) :
    Calls Try.prog 86 #[.int .i64 (n : Int), .int .i64 (d : Int)] w fun e w' => e = .returned (.int .i64 (u : Int)) ∧ w = w' := by
  have hd0 : ((d : Int) == 0) = false := beq_eq_false_iff_ne.2 (by omega)
  have hm1 : ((d : Int) == -1) = false := beq_eq_false_iff_ne.2 (by omega)
  have z0 : ¬ d = 0 := by omega
  have k1 := i64_in ((n : Int) + (d : Int)) (by omega)
  have k2 := i64_in ((n : Int) + (d : Int) - 1) (by omega)
  have ht : ((n : Int) + (d : Int) - 1).tdiv (d : Int) = (u : Int) := by
    rw [Int.tdiv_eq_ediv_of_nonneg (by omega), ← unhide hu]
    push_cast
    congr 1
    omega
  have hb : u ≤ n + d := by rw [← unhide hu]; exact Nat.le_trans (Nat.div_le_self _ _) (by omega)
  have k3 := i64_in (u : Int) (by omega)
  go_enter Try.func86, Try.ntmps86
  go_wp2
  go_ret
  exact ⟨rfl, rfl⟩

theorem spanCount (a b c : Nat) (hab : a ≤ b) (hb : b ≤ 4000000) (HC : Hid (b - a = c)) (w : World) :
    Calls Try.prog 72 #[.agg #[.int .i64 (a : Int), .int .i64 (b : Int)]] w fun e w' => e = .returned (.int .i64 (c : Int)) ∧ w.grownBy w' none := by
  have k1 : IntKind.i64.wrap ((b : Int) - (a : Int)) = (c : Int) := by have := unhide HC; rw [i64_in _ (by omega)]; omega
  go_enter Try.func72, Try.ntmps72
  go_wp2
  go_ret
  exact ⟨rfl, grown_alloc (World.grownBy.refl _ _) _⟩

set_option maxRecDepth 20000 in
set_option maxHeartbeats 3200000 in
theorem spanOf (p ps wh a b : Nat) (hp : p < ps) (hps : ps ≤ 1024) (hwh : 1 ≤ wh ∧ wh ≤ 1024) (HA : Hid (fromN wh ps p = a)) (HB : Hid (toN wh ps p = b)) (W : World) :
    Calls Try.prog 71 #[.int .i64 (p : Int), .int .i64 (ps : Int), .int .i64 (wh : Int)] W fun e W' => e = .returned (.agg #[.int .i64 (a : Int), .int .i64 (b : Int)]) ∧ W.grownBy W' none := by
  obtain ⟨x, HX⟩ : ∃ x : Nat, Hid (p * wh = x) := ⟨_, rfl⟩
  obtain ⟨y, HY⟩ : ∃ y : Nat, Hid ((p + 1) * wh = y) := ⟨_, rfl⟩
  have hx : x ≤ 1048576 := by rw [← unhide HX]; exact Nat.mul_le_mul (by omega : p ≤ 1024) hwh.2
  have hy : y ≤ 1048576 := by rw [← unhide HY]; exact Nat.mul_le_mul (by omega : p + 1 ≤ 1024) hwh.2
  have hy1 : 1 ≤ y := by rw [← unhide HY]; exact Nat.mul_le_mul (by omega : 1 ≤ p + 1) hwh.1
  have HA' : Hid (x / ps = a) := by unfold Hid; rw [← unhide HX]; exact unhide HA
  have HB' : Hid ((y + ps - 1) / ps = b) := by unfold Hid; rw [← unhide HY]; exact unhide HB
  have k1 : IntKind.i64.wrap ((p : Int) * (wh : Int)) = (x : Int) := by
    have e : (p : Int) * (wh : Int) = (x : Int) := by have := unhide HX; exact_mod_cast this
    rw [e, i64_in _ (by omega)]
  have k2 : (x : Int).tdiv (ps : Int) = (a : Int) := by
    rw [Int.tdiv_eq_ediv_of_nonneg (by omega)]
    have := unhide HA'
    exact_mod_cast this
  have ha : a ≤ x := by rw [← unhide HA']; exact Nat.div_le_self _ _
  have k3 := i64_in (a : Int) (by omega)
  have k4 := i64_in ((p : Int) + 1) (by omega)
  have k5 : IntKind.i64.wrap (((p : Int) + 1) * (wh : Int)) = (y : Int) := by
    have e : ((p : Int) + 1) * (wh : Int) = (y : Int) := by have := unhide HY; exact_mod_cast this
    rw [e, i64_in _ (by omega)]
  have z1 : ((ps : Int) == 0) = false := beq_eq_false_iff_ne.2 (by omega)
  have z2 : ((ps : Int) == -1) = false := beq_eq_false_iff_ne.2 (by omega)
  have z3 : ¬ ps = 0 := by omega
  have b0 := hide (heap_alloc_new W (.cells #[.int .i64 0, .int .i64 0] 86))
  have HG0 := hide (World.grownBy_alloc W (.cells #[.int .i64 0, .int .i64 0] 86) none)
  go_enter Try.func71, Try.ntmps71
  go_wp2
  generalize W.alloc (.cells #[.int .i64 0, .int .i64 0] 86) = W0 at *
  refine wp_region_noPanic ?_
  refine wp_region_tailL 20 (fun W => True) [true, true, true, true, true, true, true, true, true, true, false, false, false] (by kernel_rfl) (fun _ _ _ _ _ h => h) rfl (by decide) (by kernel_rfl) trivial ?_
  have bD : Hid (W0.drew.heap[W.heap.size]? = some (.cells #[.int .i64 0, .int .i64 0] 86 (0, 0))) := unhide b0
  have gD : W.grownBy W0.drew none := grown_drew (unhide HG0)
  generalize W0.drew = W1 at *
  clear b0 HG0 W0
  refine heldF_take (v := ?_) (Or.inl ⟨by rfl, ?_⟩) ?_
  rotate_left 1
  · intro w' hSw
    go_simp
    try with_reducible rfl
  try simp only [Act.put, List.setIfInBounds_toArray, List.set_cons_zero, List.set_cons_succ]
  refine heldF_take (v := ?_) (Or.inl ⟨by rfl, ?_⟩) ?_
  rotate_left 1
  · intro w' hSw
    go_simp
    try with_reducible rfl
  try simp only [Act.put, List.setIfInBounds_toArray, List.set_cons_zero, List.set_cons_succ]
  refine heldF_take (v := ?_) (Or.inl ⟨by rfl, ?_⟩) ?_
  rotate_left 1
  · intro w' hSw
    go_simp
    try with_reducible rfl
  try simp only [Act.put, List.setIfInBounds_toArray, List.set_cons_zero, List.set_cons_succ]
  refine heldF_take (v := ?_) (Or.inl ⟨by rfl, ?_⟩) ?_
  rotate_left 1
  · intro w' hSw
    go_simp
    try with_reducible rfl
  try simp only [Act.put, List.setIfInBounds_toArray, List.set_cons_zero, List.set_cons_succ]
  refine heldF_take (v := ?_) (Or.inl ⟨by rfl, ?_⟩) ?_
  rotate_left 1
  · intro w' hSw
    go_simp
    try with_reducible rfl
  try simp only [Act.put, List.setIfInBounds_toArray, List.set_cons_zero, List.set_cons_succ]
  refine heldF_take (v := ?_) (Or.inl ⟨by rfl, ?_⟩) ?_
  rotate_left 1
  · intro w' hSw
    go_simp
    try with_reducible rfl
  try simp only [Act.put, List.setIfInBounds_toArray, List.set_cons_zero, List.set_cons_succ]
  refine heldF_take (v := ?_) (Or.inl ⟨by rfl, ?_⟩) ?_
  rotate_left 1
  · intro w' hSw
    go_simp
    try with_reducible rfl
  try simp only [Act.put, List.setIfInBounds_toArray, List.set_cons_zero, List.set_cons_succ]
  refine heldF_take (v := ?_) (Or.inl ⟨by rfl, ?_⟩) ?_
  rotate_left 1
  · intro w' hSw
    go_simp
    try with_reducible rfl
  try simp only [Act.put, List.setIfInBounds_toArray, List.set_cons_zero, List.set_cons_succ]
  refine heldF_take (v := ?_) (Or.inl ⟨by rfl, ?_⟩) ?_
  rotate_left 1
  · intro w' hSw
    go_simp
    try with_reducible rfl
  try simp only [Act.put, List.setIfInBounds_toArray, List.set_cons_zero, List.set_cons_succ]
  refine heldF_take (v := ?_) (Or.inl ⟨by rfl, ?_⟩) ?_
  rotate_left 1
  · intro w' hSw
    go_simp
    try with_reducible rfl
  try simp only [Act.put, List.setIfInBounds_toArray, List.set_cons_zero, List.set_cons_succ]
  refine heldF_skip ?_
  refine heldF_skip ?_
  refine heldF_skip ?_
  refine heldF_nil ?_
  refine tailL_skip ?_
  refine tailL_skip ?_
  refine tailL_skip ?_
  refine tailL_skip ?_
  refine tailL_skip ?_
  refine tailL_skip ?_
  refine tailL_skip ?_
  refine tailL_skip ?_
  refine tailL_skip ?_
  refine tailL_skip ?_
  refine tailL_step (fun K hK => ?_)
  go_simp
  refine (divUp16 y ps b ⟨hy1, by omega⟩ (by omega) HB' W1).mono ?_
  rintro e w4 ⟨rfl, rfl⟩
  refine hK.out _ _ (.inr trivial) ?_
  clear hK K
  try simp only [Act.put, List.setIfInBounds_toArray, List.set_cons_zero, List.set_cons_succ]
  refine tailL_step (fun K hK => ?_)
  go_simp
  refine hK.out _ _ (.inr trivial) ?_
  clear hK K
  try simp only [Act.put, List.setIfInBounds_toArray, List.set_cons_zero, List.set_cons_succ]
  refine tailL_step (fun K hK => ?_)
  refine step_store_row (by rfl) 86 _ _ rfl W.heap.size rfl #[.int .i64 (a : Int), .int .i64 (b : Int)] rfl _ 86 (unhide bD) rfl (by kernel_rfl) (by simp [Value.oneCell']) ?_
  intro w5 hB5 g5
  refine hK.out _ _ (.inl rfl) ?_
  clear hK K
  refine tailL_nil (NoPanic.normal ?_)
  try simp only [Act.put]
  go_wp2
  refine bodyPost_ret (v := .agg #[.int .i64 (a : Int), .int .i64 (b : Int)]) ?_ rfl ⟨rfl, ?_⟩
  · rw [results_c1 rfl]
    exact run_loadVar_row w5 _ 86 86 _ (0, 0) _ hB5 Try.underlying86 rfl (by kernel_rfl)
  · exact grown_new gD g5 (fun g e => by simp at e; omega)

end Go.Proofs.Ytkefpjbdkhifhaa
