/-
  CutBlocks in the program (written by gen_cut.py).
-/
import Derived.Test.YtkefpjbdkhifhaaToneTile
import Derived.Test.YtkefpjbdkhifhaaSpotsNew
import Derived.Test.YtkefpjbdkhifhaaAppRowF
import Derived.Test.YtkefpjbdkhifhaaRawLastIn
namespace Go.Proofs.Ytkefpjbdkhifhaa
open Go.RowKit Go.Shelf

attribute [local go_sem] Oper.semAt_some

set_option maxRecDepth 100000 in
set_option maxHeartbeats 6400000 in
theorem implCutBlocks (ao : Option Addr) (n cap : Nat) (zs : List Int) (w h : Int) (W : World) (hr : Rd .i64 W ao n zs) (hn : n ≤ 9223372036854775807) (L : List (List Int)) (HL : Hid (cutG zs w h = L)) :
    Calls Try.prog 22 #[.slice ao n cap, .int .i64 w, .int .i64 h] W fun e W' => (∃ v F, e = .returned v ∧ Ow2 W' v L F ∧ F.Nodup ∧ ∀ x ∈ F, W.heap.size ≤ x) ∧ W.grownBy W' none := by
  have HR := hide hr
  have HNL := hide hr.1
  clear hr
  obtain ⟨pb, HP⟩ : ∃ y, Hid (planeB zs w h = y) := ⟨_, rfl⟩
  refine (callsIn_wide (n := 0)).1 ?_
  refine callsIn_of_wp_marks Try.func22 rfl trivial ?_ rfl
  refine wpIn_wide.2 ?_
  simp only [Try.ntmps22, List.size_toArray, List.length_cons, List.length_nil, Nat.reduceAdd, Nat.reduceSub, Array.replicate_succ, Array.replicate_zero, List.push_toArray, List.append_toArray, List.nil_append, List.cons_append]
  go_wp2_with fail
  refine (fixTones ao n cap zs w h W (unhide HR) hn pb HP).mono ?_
  rintro e w1 ⟨⟨v, rfl, hf⟩, g1⟩
  have HG1 := hide g1
  clear g1
  rcases hf with ⟨rfl, wN, hN, g, m, rfl, rfl, hm, rfl, hB, hge⟩ | ⟨rfl, a, c, so, sn, sc, rfl, ha, hc⟩
  · have hpl := plane_of (unhide HP)
    have HM := hide hm
    have hmn : m = n := by
      have h1 := hpl.2.2.1
      rw [unhide HNL, ← Int.natCast_mul, hm] at h1
      omega
    have HMN : Hid (zs.length = m) := by unfold Hid; rw [unhide HNL, hmn]
    have hbd : (1 ≤ wN ∧ wN ≤ 1024) ∧ (1 ≤ hN ∧ hN ≤ 1024) := by omega
    have HV := hide hpl.2.2.2.2
    obtain ⟨W1, hW1⟩ : ∃ W1, w1.alloc (.cells #[.int .i64 (wN : Int), .int .i64 (hN : Int), .slice (some ⟨g, 0, none⟩) m m] 57) = W1 := ⟨_, rfl⟩
    have GA : w1.grownBy W1 none := by rw [← hW1]; exact World.grownBy_alloc _ _ _
    have HG2 : Hid (W.grownBy W1 none) := grown_trans (unhide HG1) GA
    have HB1 := hide (hB.grown GA)
    have p7 : Hid (W1.heap[w1.heap.size]? = some (.cells #[.int .i64 (wN : Int), .int .i64 (hN : Int), .slice (some ⟨g, 0, none⟩) m m] 57 (0, 0))) := by rw [← hW1]; exact heap_alloc_new w1 _
    have HGW : Hid (W.heap.size ≤ g ∧ g < w1.heap.size) := ⟨hge, hB.lt⟩
    obtain ⟨bw, HBW⟩ : ∃ k : Nat, Hid (wN / 8 = k) := ⟨_, rfl⟩
    obtain ⟨bh, HBH⟩ : ∃ k : Nat, Hid (hN / 8 = k) := ⟨_, rfl⟩
    have f1 : IntKind.i64.wrap ((wN : Int).tdiv 8) = (bw : Int) := by rw [Int.tdiv_eq_ediv_of_nonneg (by omega), i64_in _ (by omega)]; have := unhide HBW; omega
    have f2 : IntKind.i64.wrap ((hN : Int).tdiv 8) = (bh : Int) := by rw [Int.tdiv_eq_ediv_of_nonneg (by omega), i64_in _ (by omega)]; have := unhide HBH; omega
    have e1 : (wN : Int).tmod 8 = (wN : Int) % 8 := Int.tmod_eq_emod_of_nonneg (by omega)
    have e2 : (hN : Int).tmod 8 = (hN : Int) % 8 := Int.tmod_eq_emod_of_nonneg (by omega)
    obtain ⟨tb, HTB⟩ : ∃ y, Hid ((decide ((wN : Int).tmod 8 = 0) && decide ((hN : Int).tmod 8 = 0)) = y) := ⟨_, rfl⟩
    have hTB := unhide HTB
    rw [e1, e2] at hTB
    have HTD := hide hTB
    have HTI := hide (tiled (wN : Int) (hN : Int) tb HTB)
    rw [f1, f2] at HTI
    have hbb : bw ≤ 128 ∧ bh ≤ 128 := by have := unhide HBW; have := unhide HBH; omega
    have c0 : (w1.alloc (.cells #[.int .i64 (wN : Int), .int .i64 (hN : Int), .slice (some ⟨g, 0, none⟩) m m] 57)).cell? ⟨w1.heap.size, 0, none⟩ = some (.int .i64 (wN : Int)) := by rw [hW1, cell_of_row W1 _ 0 _ _ (0, 0) (unhide p7)]; rfl
    have c1 : (w1.alloc (.cells #[.int .i64 (wN : Int), .int .i64 (hN : Int), .slice (some ⟨g, 0, none⟩) m m] 57)).cell? ⟨w1.heap.size, 1, none⟩ = some (.int .i64 (hN : Int)) := by rw [hW1, cell_of_row W1 _ 1 _ _ (0, 0) (unhide p7)]; rfl
    have HW1 := hide hW1
    clear hW1 hpl hB hge GA e1 e2 hTB f1 f2 hm hmn
    go_wp2_with fail
    rw [unhide HW1]
    refine (unhide HTI W1).mono ?_
    rintro e w2 ⟨rfl, g2⟩
    obtain ⟨W3, hW3⟩ : ∃ W3, w2.alloc (.cells #[.int .i64 (bw : Int), .int .i64 (bh : Int)] 48) = W3 := ⟨_, rfl⟩
    have GA : W1.grownBy W3 none := by rw [← hW3]; exact grown_alloc g2 _
    have HG3 : Hid (W.grownBy W3 none) := grown_trans (unhide HG2) GA
    have HB3 := hide ((unhide HB1).grown GA)
    have q7 := hide (grown_atG GA (unhide p7) (by simp))
    have q9 : Hid (W3.heap[w2.heap.size]? = some (.cells #[.int .i64 (bw : Int), .int .i64 (bh : Int)] 48 (0, 0))) := by rw [← hW3]; exact heap_alloc_new w2 _
    have HW3 := hide hW3
    have HS7 : Hid (g < w1.heap.size ∧ w1.heap.size < W3.heap.size ∧ w2.heap.size < W3.heap.size ∧ W.heap.size ≤ g) := ⟨(unhide HGW).2, (Array.getElem?_eq_some_iff.1 (unhide q7)).1, (Array.getElem?_eq_some_iff.1 (unhide q9)).1, (unhide HGW).1⟩
    clear hW3 g2 GA HW1 c0 c1 HB1 p7 HG2 HTI
    generalize w1.heap.size = s7 at *
    cases tb with
    | false =>
      obtain rfl : L = [] := by
        rw [← unhide HL, cutG, if_neg]
        have h1 := unhide HTD
        intro e
        simp only [Bool.and_eq_true, decide_eq_true_eq, Bool.and_eq_false_iff, decide_eq_false_iff_not] at e h1
        omega
      go_wp2
      rw [unhide HW3]
      exact ⟨_, results_tmp rfl _ _ _, ⟨_, [], rfl, OwR.nil _ _ _, by simp, fun x hx => by simp at hx⟩, unhide HG3⟩
    | true =>
      have h1 := unhide HTD
      simp only [Bool.and_eq_true, decide_eq_true_eq] at h1
      have HEQ : Hid (wN = 8 * bw ∧ hN = 8 * bh ∧ 1 ≤ bw ∧ 1 ≤ bh) := by have := unhide HBW; have := unhide HBH; unfold Hid; omega
      have HLG : Hid (cutL zs wN hN = L) := by
        unfold Hid
        rw [← unhide HL, cutG, unhide HP, decide_eq_true h1.1, decide_eq_true h1.2]
        rfl
      have HLL : Hid (L.length = bh * bw) := by unfold Hid; rw [← unhide HLG, ← unhide HBW, ← unhide HBH]; simp [cutL]
      obtain ⟨nb, HNB⟩ : ∃ k : Nat, Hid (bw * bh = k) := ⟨_, rfl⟩
      have hnb : nb ≤ 16384 := by rw [← unhide HNB]; exact Nat.mul_le_mul hbb.1 hbb.2
      have hnI : (bw : Int) * (bh : Int) = (nb : Int) := by rw [← unhide HNB]; push_cast; rfl
      have HNI := hide hnI
      have d0 : (w2.alloc (.cells #[.int .i64 (bw : Int), .int .i64 (bh : Int)] 48)).cell? ⟨w2.heap.size, 0, none⟩ = some (.int .i64 (bw : Int)) := by rw [unhide HW3, cell_of_row W3 _ 0 _ _ (0, 0) (unhide q9)]; rfl
      have d1 : (w2.alloc (.cells #[.int .i64 (bw : Int), .int .i64 (bh : Int)] 48)).cell? ⟨w2.heap.size, 1, none⟩ = some (.int .i64 (bh : Int)) := by rw [unhide HW3, cell_of_row W3 _ 1 _ _ (0, 0) (unhide q9)]; rfl
      obtain ⟨i0, hi, hz0, hz1, hz2⟩ := info_parts infoIntSS
      have HI := hide hi
      have HZ0 := hide hz0
      have HZ1 := hide hz1
      have HZ2 := hide hz2
      clear h1 hnI hi hz0 hz1 hz2 HL HP
      go_wp2_with fail
      rw [unhide HW3]
      refine (areaCount (bw : Int) (bh : Int) (by omega) (by omega) W3).mono ?_
      rintro e w4 ⟨rfl, g4⟩
      rw [unhide HNI]
      have G4 := hide g4
      clear g4 d0 d1 HW3
      generalize w2.heap.size = s9 at *
      have r9 := hide (grown_atG (unhide G4) (unhide q9) (by simp))
      have t0 : w4.cell? ⟨s9, 0, none⟩ = some (.int .i64 (bw : Int)) := by rw [cell_of_row w4 _ 0 _ _ (0, 0) (unhide r9)]; rfl
      go_wp2_with (at_make; refine wpList_make_own _ rfl _ _ 33 rfl 0 24 i0 (.slice none 0 0) 1 Try.underlying33 (unhide HI) (unhide HZ0) (unhide HZ1) .i64 .i64 _ nb rfl rfl rfl (by rw [unhide HZ2]; omega) (by unfold maxLen; omega) (Nat.zero_le _) ?_)
      intro w5 hown g5
      have HO5 : Hid (Ow2 w5 (.slice (some ⟨w4.heap.size, 0, none⟩) 0 nb) (L.take 0) [w4.heap.size]) := OwR.none16 _ hown
      have G5 := hide (grown_trans (unhide G4) g5)
      have HS4 := hide (unhide G4).size
      clear hown g5 t0 G4 r9
      generalize w4.heap.size = R at *
      obtain ⟨W6, hW6⟩ : ∃ W6, w5.alloc (.cells #[.slice (some ⟨R, 0, none⟩) 0 nb] 33) = W6 := ⟨_, rfl⟩
      have GA : w5.grownBy W6 none := by rw [← hW6]; exact World.grownBy_alloc _ _ _
      have HO6 := hide (ok2.keep (unhide HO5) GA)
      have HRL : Hid (R < w5.heap.size) := ok2.lt _ _ _ _ (unhide HO5) R (by simp)
      have G6 := hide (grown_trans (unhide G5) GA)
      have HB6 := hide ((unhide HB3).grown (unhide G6))
      have p7 := hide (grown_atG (unhide G6) (unhide q7) (by simp))
      have p9 := hide (grown_atG (unhide G6) (unhide q9) (by simp))
      have pb : Hid (W6.heap[w5.heap.size]? = some (.cells #[.slice (some ⟨R, 0, none⟩) 0 nb] 33 (0, 0))) := by rw [← hW6]; exact heap_alloc_new w5 _
      have d0 : (w5.alloc (.cells #[.slice (some ⟨R, 0, none⟩) 0 nb] 33)).cell? ⟨s9, 0, none⟩ = some (.int .i64 (bw : Int)) := by rw [hW6, cell_of_row W6 _ 0 _ _ (0, 0) (unhide p9)]; rfl
      have d1 : (w5.alloc (.cells #[.slice (some ⟨R, 0, none⟩) 0 nb] 33)).cell? ⟨s9, 1, none⟩ = some (.int .i64 (bh : Int)) := by rw [hW6, cell_of_row W6 _ 1 _ _ (0, 0) (unhide p9)]; rfl
      have HW6 := hide hW6
      clear hW6 GA HO5 q7 q9 G5 HB3
      go_wp2_with fail
      rw [unhide HW6]
      generalize hob : w5.heap.size = ob at *
      clear hob HW6 d0 d1
      refine (callsIn_wide.1 (spots_in Fence.wide 0 trivial rfl _ _ _)).mono ?_
      rintro e w' ⟨rfl, rfl⟩
      obtain ⟨w8, hw8⟩ : ∃ w8, W6.alloc (.cells #[.int .i64 (bw : Int), .int .i64 (bh : Int)] 48) = w8 := ⟨_, rfl⟩
      have g8 : W6.grownBy w8 none := by rw [← hw8]; exact World.grownBy_alloc _ _ _
      have s8 : w8.heap.size = W6.heap.size + 1 := by rw [← hw8]; simp
      have BA8 : Hid (w8.heap[W6.heap.size]? = some (.cells #[.int .i64 (bw : Int), .int .i64 (bh : Int)] 48 (0, 0))) := by rw [← hw8]; exact heap_alloc_new _ _
      rw [hw8]
      have G8 := hide (grown_trans (unhide G6) g8)
      have HB8 := hide ((unhide HB6).grown g8)
      have HO8 := hide (ok2.keep (unhide HO6) g8)
      have x7 := hide (grown_atG g8 (unhide p7) (by simp))
      have xb := hide (grown_atG g8 (unhide pb) (by simp))
      have HS8 := hide s8
      have HLT : Hid (ob < W6.heap.size ∧ R < ob ∧ W3.heap.size ≤ R) := ⟨(Array.getElem?_eq_some_iff.1 (unhide pb)).1, unhide HRL, unhide HS4⟩
      obtain ⟨Z, HZ⟩ : ∃ Z, Hid (tq (List.replicate 64 0) = Z) := ⟨_, rfl⟩
      have HZS : Hid (Z.size = 64) := by unfold Hid; rw [← unhide HZ, tq_size]; rfl
      have hz : (#[.int .u16 0, .int .u16 0, .int .u16 0, .int .u16 0, .int .u16 0, .int .u16 0, .int .u16 0, .int .u16 0, .int .u16 0, .int .u16 0, .int .u16 0, .int .u16 0, .int .u16 0, .int .u16 0, .int .u16 0, .int .u16 0, .int .u16 0, .int .u16 0, .int .u16 0, .int .u16 0, .int .u16 0, .int .u16 0, .int .u16 0, .int .u16 0, .int .u16 0, .int .u16 0, .int .u16 0, .int .u16 0, .int .u16 0, .int .u16 0, .int .u16 0, .int .u16 0, .int .u16 0, .int .u16 0, .int .u16 0, .int .u16 0, .int .u16 0, .int .u16 0, .int .u16 0, .int .u16 0, .int .u16 0, .int .u16 0, .int .u16 0, .int .u16 0, .int .u16 0, .int .u16 0, .int .u16 0, .int .u16 0, .int .u16 0, .int .u16 0, .int .u16 0, .int .u16 0, .int .u16 0, .int .u16 0, .int .u16 0, .int .u16 0, .int .u16 0, .int .u16 0, .int .u16 0, .int .u16 0, .int .u16 0, .int .u16 0, .int .u16 0, .int .u16 0] : Array Value) = Z := by rw [← unhide HZ]; exact tq_z.symm
      clear hw8 g8 s8 HB6 HO6 p7 p9 pb G6 HRL HS4
      go_wp2
      refine (wpIn_wide (n := 0)).1 ?_
      refine rangeFunc_news (gf := 82) (lb := #[.pointer (some ⟨W6.heap.size, 0, none⟩)]) (O := fun k => k = ob ∨ k = R) rfl (enters_of Try.func82 (by kernel_rfl) rfl) (fun k hk => by have := unhide HLT; have := unhide HS8; omega)
        (spots_news W6.heap.size bw bh (by omega) (by omega) _ w8 (unhide BA8) (fun e => by have := unhide HLT; omega)) (fun _ => rfl)
        (fun l pre Wk => Wk.heap[ob]? = some (.cells #[.slice (some ⟨R, 0, none⟩) (L.take pre.length).length nb] 33 (0, 0)) ∧ ∃ F, Ow2 Wk (.slice (some ⟨R, 0, none⟩) (L.take pre.length).length nb) (L.take pre.length) F ∧ F.Nodup ∧ (∀ x ∈ F, x = R ∨ w8.heap.size + 2 ≤ x) ∧ l ∉ F ∧ l ≠ ob)
        (fun l pre A A' h hk => ⟨(hk ob ((Array.getElem?_eq_some_iff.1 h.1).1) (fun e => by obtain ⟨F, h2⟩ := h.2; exact h2.2.2.2.2 e.symm)).trans h.1, by
          obtain ⟨F, h2, h3, h4, h5, h6⟩ := h.2
          exact ⟨F, ok2.same _ _ _ _ _ h2 (fun x hx => hk x (ok2.lt _ _ _ _ h2 x hx) (fun e => h5 (by rw [← e]; exact hx))), h3, h4, h5, h6⟩⟩)
        (fun l hl => ⟨unhide xb, [R], unhide HO8, by simp, fun x hx => by simp at hx; exact .inl hx, fun e => by simp at e; have := unhide HLT; have := unhide HS8; omega, fun e => by have := unhide HLT; have := unhide HS8; omega⟩) ?a1 ?assign ?body ?done
      case assign =>
        intro l' mm x Wa K hK
        gi_wp2
        exact hK
      case body =>
        intro l' mm pre x Wa hl1 hl2 hI hb hlen
        obtain ⟨hk1, hk2, hk3⟩ := spot_num hlen
        obtain ⟨y, xx⟩ := x
        dsimp only at hk1 hk2 hk3 ⊢
        obtain ⟨hob, F, hOw, hFN, hFL, hlF, hlo⟩ := hI
        have lt := unhide HLT
        have s8 := unhide HS8
        have hs7 := unhide HS7
        have y7 := (hb.block s7 (by omega) (fun e => by omega)).trans (unhide x7)
        have u0 : Wa.cell? ⟨s7, 0, none⟩ = some (.int .i64 (wN : Int)) := by rw [cell_of_row Wa _ 0 _ _ (0, 0) y7]; rfl
        have u1 : Wa.cell? ⟨s7, 1, none⟩ = some (.int .i64 (hN : Int)) := by rw [cell_of_row Wa _ 1 _ _ (0, 0) y7]; rfl
        have u2 : Wa.cell? ⟨s7, 2, none⟩ = some (.slice (some ⟨g, 0, none⟩) m m) := by rw [cell_of_row Wa _ 2 _ _ (0, 0) y7]; rfl
        have HBa : Hid (Blk .u16 73 Wa g zs) := (unhide HB8).same (hb.block g (by omega) (fun e => by omega))
        have hcl : pre.length < bh * bw := by
          have := row_end (w := bw) hk2
          omega
        obtain ⟨T, HTT⟩ : ∃ T, Hid (cutF zs wN pre.length = T) := ⟨_, rfl⟩
        have HTL : Hid (T.length = 64) := by rw [← unhide HTT]; exact cutF_len _ _ _
        have HTS : Hid ((tq T).size = 64) := by unfold Hid; rw [tq_size]; exact unhide HTL
        have HTA : Hid (∀ i, i < 64 → T.getD i 0 = zs.getD ((8 * y + i / 8) * wN + 8 * xx + i % 8) 0) := fun i hi => by
          have h1 : pre.length / bw = y := by rw [← hk1, Nat.add_comm, Nat.add_mul_div_right _ _ (by omega), Nat.div_eq_of_lt hk3, Nat.zero_add]
          have h2 : pre.length % bw = xx := by rw [← hk1, Nat.add_comm, Nat.add_mul_mod_self_right, Nat.mod_eq_of_lt hk3]
          rw [← unhide HTT, cutF, unhide HBW, h1, h2]
          simp [hi]
        have HTV : Hid (∀ x ∈ T, 0 ≤ x ∧ x ≤ 4095) := fun v hv => by
          rw [← unhide HTT, cutF] at hv
          obtain ⟨i, _, rfl⟩ := List.mem_map.1 hv
          generalize (8 * (pre.length / (wN / 8)) + i / 8) * wN + 8 * (pre.length % (wN / 8)) + i % 8 = j
          by_cases hj : j < zs.length
          · have e : zs.getD j 0 = zs[j] := by simp [hj]
            rw [e]
            exact unhide HV _ (List.getElem_mem hj)
          · have e : zs.getD j 0 = 0 := by rw [List.getD_eq_getElem?_getD, List.getElem?_eq_none (by omega)]; rfl
            rw [e]
            omega
        have HNX : Hid (L.take pre.length ++ [T] = L.take (pre.length + 1)) := by
          unfold Hid
          rw [← unhide HLG, ← unhide HTT]
          exact cutL_take zs wN hN pre.length (by rw [unhide HBW, unhide HBH]; exact hcl)
        have hn1 : (pre ++ [(y, xx)]).length = pre.length + 1 := by simp
        rw [hn1]
        have HROOM : Hid ((L.take pre.length).length + 1 ≤ nb) := by unfold Hid; rw [List.length_take, unhide HLL, ← unhide HNB, Nat.mul_comm bw bh]; omega
        obtain ⟨L0, HL0⟩ : ∃ X, Hid (L.take pre.length = X) := ⟨_, rfl⟩
        obtain ⟨L1, HL1⟩ : ∃ X, Hid (L.take (pre.length + 1) = X) := ⟨_, rfl⟩
        rw [unhide HL0, unhide HL1] at HNX
        rw [unhide HL0] at HROOM hob hOw
        rw [unhide HL1]
        have HOB := hide hob
        have HOW := hide hOw
        have HFN := hide hFN
        have HFL := hide hFL
        have HLF := hide hlF
        have HBB := hide hb
        have hrr : 8 * y + 8 ≤ hN := by have := unhide HEQ; omega
        have hcc : 8 * xx + 8 ≤ wN := by have := unhide HEQ; omega
        clear hob hOw hFN hFL hlF hb hlen hk1 hn1 y7 hcl
        gi_wp2_with fail
        refine ⟨trivial, fun h => by simp [Fence.wide] at h, (CallsIn.inRound l' (callsIn_wide.2 (tileAt wN hN g m y xx zs (by omega) (by omega) hrr hcc HM Wa (unhide HBa) (unhide HMN) T HTL HTA))).mono ?_⟩
        rintro e w10 ⟨rfl, g10⟩
        have G10 := hide g10
        have HB14 := hide (heap_alloc_new w10 (.cells Z 75))
        have HZN := hide (World.grownBy_alloc w10 (.cells Z 75) none)
        clear g10
        gi_wp2_with ((refine store_rowR rfl 75 _ _ rfl w10.heap.size rfl (tq T) rfl Z 75 (unhide HB14) (by rw [unhide HZS, unhide HTS]) (by rw [unhide HTS]; kernel_rfl) (tq_one _) ?_; intro w11 hB11 g11))
        have G11 : Hid (Wa.grownBy w11 none) := grown_new (grown_trans (unhide G10) (unhide HZN)) g11 (fun k e => by simp at e; have := (unhide G10).size; omega)
        have HT11 : Hid (Blk .u16 75 w11 w10.heap.size T) := hB11
        have HS14 : Hid (Wa.heap.size ≤ w10.heap.size) := (unhide G10).size
        have zb := hide (grown_atG (unhide G11) (unhide HOB) (by simp))
        have HO11 := hide (ok2.keep (unhide HOW) (unhide G11))
        clear hB11 g11 HB14 HZN G10 HOB u0 u1 u2
        generalize w10.heap.size = s14 at *
        try simp only [Act.put]
        have cb : Hid (w11.cell? ⟨ob, 0, none⟩ = some (.slice (some ⟨R, 0, none⟩) L0.length nb)) := by unfold Hid; rw [cell_of_row w11 _ 0 _ _ (0, 0) (unhide zb)]; rfl
        refine wpIn_rawT 20 (fun W => W.cell? ⟨ob, 0, none⟩ = some (.slice (some ⟨R, 0, none⟩) L0.length nb)) [true, true, false, false, false, false] (by kernel_rfl) (fun _ _ h => h) (fun _ _ _ _ _ h => h) rfl (by kernel_rfl) (by kernel_rfl) (unhide cb) ?_
        have GD : Hid (Wa.grownBy w11.drew none) := grown_drew (unhide G11)
        have HTd : Hid (Blk .u16 75 w11.drew s14 T) := unhide HT11
        have HOd : Hid (Ow2 w11.drew (.slice (some ⟨R, 0, none⟩) L0.length nb) L0 F) := ok2.same _ _ _ _ _ (unhide HO11) (fun _ _ => rfl)
        have zd : Hid (w11.drew.heap[ob]? = some (.cells #[.slice (some ⟨R, 0, none⟩) L0.length nb] 33 (0, 0))) := unhide zb
        have cd : Hid (w11.drew.cell? ⟨ob, 0, none⟩ = some (.slice (some ⟨R, 0, none⟩) L0.length nb)) := unhide cb
        generalize w11.drew = w12 at *
        refine heldF_take (v := ?_) (Or.inl ⟨by rfl, ?_⟩) ?_
        rotate_left 1
        · intro w' hSw
          have cc := hSw
          go_simp
          try with_reducible rfl
        try simp only [Act.put, List.setIfInBounds_toArray, List.set_cons_zero, List.set_cons_succ]
        refine heldF_take (v := ?_) (Or.inl ⟨by rfl, ?_⟩) ?_
        rotate_left 1
        · intro w' hSw
          go_simp
          try with_reducible rfl
        try simp only [Act.put, List.setIfInBounds_toArray, List.set_cons_zero, List.set_cons_succ]
        refine heldF_skip (heldF_skip (heldF_skip (heldF_skip (heldF_nil ?_))))
        refine anyT_step1 (i := 2) rfl (by kernel_rfl) (fun K hK => ?_)
        go_simp
        refine (toneList 75 s14 64 T w12 (unhide HTd) (unhide HTL) (by omega) (unhide HTV)).mono ?_
        rintro e w13 ⟨so, sc, rfl, o13, g13⟩
        refine hK.out _ _ (.inr (g13.cell (unhide cd) (by simp))) ?_
        clear hK K
        try simp only [Act.put, List.setIfInBounds_toArray, List.set_cons_zero, List.set_cons_succ]
        have HO13 := hide (ok2.keep (unhide HOd) g13)
        have HU : Hid (OwI .i64 3 w13 (.slice so 64 sc) T (blk (.slice so 64 sc))) := ⟨by rw [unhide HTL]; exact own_base o13 (Nat.zero_le _), rfl⟩
        have HDU : Hid (∀ x ∈ blk (.slice so 64 sc), x ∉ F ∧ Wa.heap.size ≤ x) := fun x hx => by
          have e9 := (o13.lt x (mem_blk.1 hx)).1
          have h1 := (unhide GD).size
          exact ⟨fun h => by have := ok2.lt _ _ _ _ (unhide HOd) x h; omega, by omega⟩
        have HG13 := hide (grown_trans (unhide GD) g13)
        have c13 := hide (g13.cell (unhide cd) (by simp))
        have z13 := hide (grown_atG g13 (unhide zd) (by simp))
        clear o13 g13
        refine anyT_step1 (i := 3) rfl (by kernel_rfl) (fun K hK => ?_)
        go_simp
        refine hK.out _ _ (.inr ((World.grownBy_alloc w13 _ none).cell (unhide c13) (by simp))) ?_
        clear hK K
        try simp only [Act.put, List.setIfInBounds_toArray, List.set_cons_zero, List.set_cons_succ]
        refine anyT_step1 (i := 4) rfl (by kernel_rfl) (fun K hK => ?_)
        refine step_append_rowF ok1 Try.underlying33 infoIntSS rfl _ _ rfl R nb L0 F rfl (unhide HO13) (unhide HFN) (.slice so 64 sc) T _ (unhide HU) (blk_once _) (fun x hx => (unhide HDU x hx).1) rfl (unhide HROOM) L1 (unhide HNX) ?_
        intro w15 F15 o15 n15 m15 g15
        have hRo : R ≠ ob := by omega
        have z15 := grown_atG g15 (unhide z13) (by simp; exact hRo)
        have c15 : w15.cell? ⟨ob, 0, none⟩ = some (.slice (some ⟨R, 0, none⟩) L0.length nb) := by rw [cell_of_row w15 _ 0 _ _ (0, 0) z15]; rfl
        have f15 := frozen_of_row w15 ob 0 _ _ z15
        refine hK.out _ _ (.inr c15) ?_
        clear hK K
        try simp only [Act.put, List.setIfInBounds_toArray, List.set_cons_zero, List.set_cons_succ]
        refine anyT_step1 (i := 5) rfl (by kernel_rfl) (fun K hK => ?_)
        go_simp
        refine hK.out _ _ (.inl rfl) ?_
        clear hK K
        try simp only [Act.put]
        refine anyT_done (by kernel_rfl) ?_ _
        have hF15 : ∀ x ∈ F15, x = R ∨ w8.heap.size + 2 ≤ x := fun x hx => by
          rcases m15 x hx with h | h
          · exact unhide HFL x h
          · have := (unhide HDU x h).2
            exact .inr (by omega)
        have hl15 : l' ∉ F15 := fun e => by
          rcases m15 l' e with h | h
          · exact unhide HLF h
          · have := (unhide HDU l' h).2
            omega
        have gs := grown_set w15 ob 0 (.slice (some ⟨R, 0, none⟩) L1.length nb)
        have hob15 : ob ∉ F15 := fun e => by
          rcases hF15 ob e with h | h
          · omega
          · omega
        have hBut : But (fun k => k = ob ∨ k = R) Wa (w15.setCell ⟨ob, 0, none⟩ (.slice (some ⟨R, 0, none⟩) L1.length nb)) := (But.of_grown (unhide HG13) (fun k e => by cases e)).trans ((But.of_grown g15 (fun k e => by cases e; exact .inr rfl)).trans (But.of_grown gs (fun k e => by cases e; exact .inl rfl)))
        refine ⟨⟨?_, F15, ?_, n15, hF15, hl15, hlo⟩, hBut⟩
        · rw [heap_setCell_same w15 ob 0 _ _ _ z15]; rfl
        · exact ok2.same _ _ _ _ _ o15 (fun x hx => heap_setCell_other w15 ⟨ob, 0, none⟩ x _ (fun e => hob15 (by have e9 : x = ob := e; rw [← e9]; exact hx)))
      case done =>
        intro l D W9 hD hl hi b9 hdef
        obtain ⟨hob, F, hOw, hFN, hFL, hlF, hlo⟩ := hi
        have hlen9 : (sTo bw bh).length = L.length := by rw [sTo_len, unhide HLL]
        rw [hlen9, List.take_length] at hob hOw
        have k9 : W9.cell? ⟨ob, 0, none⟩ = some (.slice (some ⟨R, 0, none⟩) L.length nb) := by rw [cell_of_row W9 _ 0 _ _ (0, 0) hob]; rfl
        have HOW := hide hOw
        have HDEF := hide hdef
        have HB9 := hide b9
        have HFN := hide hFN
        have HFL := hide hFL
        have HD := hide hD
        clear hOw hdef b9 hob hFN hFL hlF hlo
        go_wp2
        refine ⟨by simp, .inl ⟨_, _, rfl, run_takeDeferred (unhide HDEF), ?_⟩⟩
        have lt := unhide HLT
        have s8 := unhide HS8
        have hs7 := unhide HS7
        have gd := grown_trans (unhide HG3) (unhide G8)
        have hgd := gd.size
        have b9 := unhide HB9
        refine ⟨_, results_tmp rfl _ _ _, ⟨_, F, rfl, ?_, unhide HFN, fun x hx => ?_⟩, ?_⟩
        · exact ok2.same _ _ _ _ _ (unhide HOW) (fun x hx => World.putObj_heap_other (fun e => by
            rcases unhide HFL x hx with h | h
            · omega
            · omega))
        · rcases unhide HFL x hx with h | h
          · omega
          · omega
        · have gp := grownBy_putObj' W9 D (.deferred none)
          refine ⟨gp.os.trans (b9.os.trans gd.os), gp.tape.trans (b9.tape.trans gd.tape), gp.output.trans (b9.output.trans gd.output), Nat.le_trans gd.size (Nat.le_trans b9.size gp.size), fun k hk _ => ?_⟩
          rw [World.putObj_heap_other (by omega), b9.block k (by omega) (fun e => by omega)]
          exact gd.block k hk (by simp)
  · obtain rfl : L = [] := by rw [← unhide HL, cutG, unhide HP]; rfl
    obtain ⟨tb, HTB⟩ : ∃ y, Hid ((decide (a.tmod 8 = 0) && decide (c.tmod 8 = 0)) = y) := ⟨_, rfl⟩
    have GT1 := hide (World.grownBy_alloc w1 (.cells #[.int .i64 a, .int .i64 c, .slice so sn sc] 57) none)
    go_wp2_with fail
    refine (tiled a c tb HTB _).mono ?_
    rintro e w2 ⟨rfl, g2⟩
    have HG2 := hide (grown_trans (unhide HG1) (grown_trans (unhide GT1) g2))
    clear g2
    go_wp2
    exact ⟨_, results_tmp rfl _ _ _, ⟨_, [], rfl, OwR.nil _ _ _, by simp, fun x hx => by simp at hx⟩, grown_alloc (unhide HG2) _⟩

end Go.Proofs.Ytkefpjbdkhifhaa
