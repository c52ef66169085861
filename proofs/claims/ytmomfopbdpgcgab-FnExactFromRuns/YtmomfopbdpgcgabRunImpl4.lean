/-
  The items of a list, in the program.
-/
import Derived.Test.YtmomfopbdpgcgabRunImpl3
namespace Go.Proofs.Ytmomfopbdpgcgab
open Go.RowKit

theorem rdT_block {w : World} {g : Nat} {a b c : Int} (h : w.heap[g]? = some (.cells #[.int .i64 a, .int .i64 b, .int .i64 c] 36 (0, 0))) : RdT w (some ⟨g, 0, none⟩) [((a, b, c) : It)].length [(a, b, c)] := by
  refine ⟨rfl, fun i hi => ?_⟩
  obtain rfl : i = 0 := by simpa using hi
  refine ⟨g, 0, rfl, ?_, ?_, ?_⟩
  · rw [cell_of_row w g _ _ _ (0, 0) h]; rfl
  · rw [cell_of_row w g _ _ _ (0, 0) h]; rfl
  · rw [cell_of_row w g _ _ _ (0, 0) h]; rfl

set_option maxRecDepth 20000 in
set_option maxHeartbeats 3200000 in
theorem implRunsGo (ao : Option Addr) (n cap : Nat) (xs : List Int) (w : World) (hr : Rd .i64 w ao n xs) (hn : n ≤ 64) :
    Calls Try.prog 20 #[.slice ao n cap] w fun e w' => ∃ v, e = .returned v ∧ w'.ownsRow w.heap.size 36 3 v (runsGo 0 xs).length (itCells (runsGo 0 xs)) ∧ w.grownBy w' none := by
  have hl := hr.1
  have HRW := hide hr
  clear hr
  have hlen := runsGo_len 0 xs
  obtain ⟨T, HT⟩ : ∃ T, Hid (runsGo 0 xs = T) := ⟨_, rfl⟩
  rw [unhide HT] at hlen
  rw [unhide HT]
  have HO0 : Hid ((w.alloc (.cells #[] 36)).ownsRow w.heap.size 36 3 (.slice (some ⟨w.heap.size, 0, none⟩) 0 0) 0 []) := World.ownsRow_lit w #[] 0 (Nat.le_refl _) (by unfold maxLen; omega) rfl
  have HT0 : Hid (Told w (w.heap.size + 1) ((w.alloc (.cells #[] 36)).alloc (.cells #[.slice (some ⟨w.heap.size, 0, none⟩) 0 0] 44)) (.slice (some ⟨w.heap.size, 0, none⟩) 0 0) []) :=
    ⟨(unhide HO0).alloc _, by have h := heap_alloc_new (w.alloc (.cells #[] 36)) (.cells #[.slice (some ⟨w.heap.size, 0, none⟩) 0 0] 44); simpa using h, by intro e; have := Option.some.inj e; simp at this, grown_alloc (grown_alloc (World.grownBy.refl _ _) _) _, by omega⟩
  obtain ⟨pb, hpb⟩ : ∃ pb, w.heap.size + 1 = pb := ⟨_, rfl⟩
  rw [hpb] at HT0
  have HPB := hide hpb
  clear HO0 hpb
  go_enter Try.func20, Try.ntmps20
  go_wp2
  rw [unhide HPB]
  go_loopw [4, 10] (fun r i wr => ∃ (k run : Nat) (I : List It), k ≤ n ∧ run ≤ k ∧ i = .int .i64 k ∧ r = .int .i64 run ∧ Hid (∃ v, Told w pb wr v I) ∧ Hid (I ++ runsGo run (xs.drop k) = T)) (fun _ i _ => n - (intOf i).toNat)
  case atStart => exact ⟨0, 0, [], Nat.zero_le _, Nat.zero_le _, rfl, rfl, ⟨_, unhide HT0⟩, unhide HT⟩
  case round =>
    clear HT0
    obtain ⟨k, run, I, hk, hrun, rfl, rfl, hv, hI⟩ := hrel
    obtain ⟨v, hv⟩ := unhide hv
    have HV := hide hv
    clear hv
    have hIl : I.length ≤ 64 := by
      have := unhide hI
      have h2 : (I ++ runsGo run (xs.drop k)).length = T.length := by rw [this]
      rw [List.length_append] at h2
      omega
    by_cases hlt : k < n
    · have hI2 := unhide hI
      rw [drop_get (by omega)] at hI2
      obtain ⟨bb, off, rfl, hcw⟩ := (unhide HRW).2 k hlt
      generalize xs.getD k 0 = x at *
      have hc := (unhide HV).grown.cell hcw (by simp)
      clear hcw hI
      by_cases hx : x = 0
      · subst hx
        rw [runsGo, if_pos rfl] at hI2
        have HI2 := hide hI2
        clear hI2
        go_wp2
        go_roundw
        case rel => exact ⟨k + 1, run + 1, I, by omega, by omega, by go_num, by go_num, ⟨_, unhide HV⟩, HI2⟩
        case measure => simp [intOf]; omega
      · rw [runsGo, if_neg hx] at hI2
        have hx0 : (x == 0) = false := beq_false_of_ne hx
        obtain ⟨c, HC⟩ : ∃ c, Hid (classI x = c) := ⟨_, rfl⟩
        obtain ⟨bv, HBV⟩ : ∃ v, Hid (bitsI x = v) := ⟨_, rfl⟩
        rw [unhide HC, unhide HBV] at hI2
        have HI2 := hide hI2
        clear hI2 hx
        by_cases h15 : 15 < run
        · have hd : decide ((15 : Int) < (run : Int)) = true := decide_eq_true (by omega)
          obtain ⟨q, hq⟩ : ∃ q, run / 16 = q := ⟨_, rfl⟩
          have hqq : q = 1 ∨ q = 2 ∨ q = 3 := by omega
          have hqI : (run : Int) / 16 = (q : Int) := by omega
          have hqT : (run : Int).tdiv 16 = (q : Int) := by rw [Int.tdiv_eq_ediv_of_nonneg (by omega)]; exact hqI
          obtain ⟨m, hm⟩ : ∃ m, run % 16 = m := ⟨_, rfl⟩
          have hmI : (run : Int) % 16 = (m : Int) := by omega
          have hmT : (run : Int).tmod 16 = (m : Int) := by rw [Int.tmod_eq_emod_of_nonneg (by omega)]; exact hmI
          have hI2 := unhide HI2
          rw [hq, hm] at hI2
          obtain ⟨L, HL⟩ : ∃ L : List It, Hid (List.replicate q (15, 0, 0) = L) := ⟨_, rfl⟩
          have hLl : L.length ≤ 3 ∧ 1 ≤ L.length := by rw [← unhide HL, List.length_replicate]; omega
          rw [unhide HL] at hI2
          have HI3 := hide hI2
          have HQQ := hide hqq
          clear hI2 HI2 hq hm hqq
          have HB1 := hide (heap_alloc_new wr (.cells #[.int .i64 15, .int .i64 0, .int .i64 0] 36))
          have HV1 := hide ((unhide HV).more (World.grownBy_alloc wr (.cells #[.int .i64 15, .int .i64 0, .int .i64 0] 36) none))
          go_wp2_with fail
          refine (implRepeat wr.heap.size q (unhide HQQ) _ (unhide HB1)).mono ?_
          rw [unhide HL]
          rintro e w2 ⟨v2, rfl, o2, g2⟩
          obtain ⟨ro, rc, rfl⟩ := own_form o2
          obtain ⟨rg, rfl, _, _⟩ := own_at o2 (by omega)
          have HR2 := hide (own_rdT o2)
          have HV2 := hide ((unhide HV1).more g2)
          clear o2 g2 HV1 HB1 HV
          go_wp2_with fail
          refine (implTell w pb _ I rg 0 rc L _ (unhide HV2) (unhide HR2) (by omega)).mono ?_
          rintro e w3 ⟨rfl, v3, h3⟩
          have HV3 := hide h3
          clear h3 HV2 HR2
          go_wp2_with fail
          refine (implItemOf m x c bv HC HBV _).mono ?_
          rintro e w5 ⟨rfl, g5⟩
          have HV5 := hide ((unhide HV3).more g5)
          clear g5 HV3
          have HV6 := hide ((unhide HV5).more (World.grownBy_alloc w5 (.cells #[.int .i64 m, .int .i64 c, .int .i64 bv] 36) none))
          have HR6 := hide (rdT_block (heap_alloc_new w5 (.cells #[.int .i64 m, .int .i64 c, .int .i64 bv] 36)))
          go_wp2_with fail
          refine (implTell w pb _ (I ++ L) w5.heap.size 0 1 [(m, c, bv)] _ (unhide HV6) (unhide HR6) (by rw [List.length_append]; simp; omega)).mono ?_
          rintro e w7 ⟨rfl, v7, h7⟩
          have HV7 := hide h7
          clear h7 HV6 HR6 HV5
          have HI7 : Hid ((I ++ L ++ [((m : Int), c, bv)]) ++ runsGo 0 (xs.drop (k + 1)) = T) := by
            unfold Hid
            rw [List.append_assoc, List.append_assoc]
            exact unhide HI3
          clear HI3
          go_wp2
          go_roundw
          case rel => exact ⟨k + 1, 0, I ++ L ++ [((m : Int), c, bv)], by omega, by omega, by go_num, by go_num, ⟨_, unhide HV7⟩, HI7⟩
          case measure => simp [intOf]; omega
        · have hd : decide ((15 : Int) < (run : Int)) = false := decide_eq_false (by omega)
          have e2 : run / 16 = 0 := by omega
          have e3 : run % 16 = run := by omega
          have hI2 := unhide HI2
          rw [e2, e3] at hI2
          have HI3 := hide hI2
          clear hI2 HI2 e2 e3
          go_wp2_with fail
          refine (implItemOf run x c bv HC HBV _).mono ?_
          rintro e w5 ⟨rfl, g5⟩
          have HV5 := hide ((unhide HV).more g5)
          clear g5 HV
          have HV6 := hide ((unhide HV5).more (World.grownBy_alloc w5 (.cells #[.int .i64 run, .int .i64 c, .int .i64 bv] 36) none))
          have HR6 := hide (rdT_block (heap_alloc_new w5 (.cells #[.int .i64 run, .int .i64 c, .int .i64 bv] 36)))
          go_wp2_with fail
          refine (implTell w pb _ I w5.heap.size 0 1 [(run, c, bv)] _ (unhide HV6) (unhide HR6) (by simp; omega)).mono ?_
          rintro e w7 ⟨rfl, v7, h7⟩
          have HV7 := hide h7
          clear h7 HV6 HR6 HV5
          have HI7 : Hid ((I ++ [((run : Int), c, bv)]) ++ runsGo 0 (xs.drop (k + 1)) = T) := by
            unfold Hid
            rw [List.append_assoc]
            exact unhide HI3
          clear HI3
          go_wp2
          go_roundw
          case rel => exact ⟨k + 1, 0, I ++ [((run : Int), c, bv)], by omega, by omega, by go_num, by go_num, ⟨_, unhide HV7⟩, HI7⟩
          case measure => simp [intOf]; omega
    · obtain rfl : k = n := by omega
      have hI2 := unhide hI
      rw [List.drop_eq_nil_of_le (by omega), runsGo] at hI2
      by_cases h0 : 0 < run
      · have hd : decide ((0 : Int) < (run : Int)) = true := decide_eq_true (by omega)
        rw [if_pos h0] at hI2
        have HI2 := hide hI2
        clear hI hI2
        have HV6 := hide ((unhide HV).more (World.grownBy_alloc wr (.cells #[.int .i64 0, .int .i64 0, .int .i64 0] 36) none))
        have HR6 := hide (rdT_block (heap_alloc_new wr (.cells #[.int .i64 0, .int .i64 0, .int .i64 0] 36)))
        go_wp2_with fail
        refine (implTell w pb _ I wr.heap.size 0 1 [(0, 0, 0)] _ (unhide HV6) (unhide HR6) (by simp; omega)).mono ?_
        rintro e w7 ⟨rfl, v7, h7⟩
        rw [unhide HI2] at h7
        have HV7 := hide h7
        clear h7 HV6 HR6 HV
        obtain ⟨so, sc, rfl⟩ := own_form (unhide HV7).own
        have c0 : w7.cell? ⟨pb, 0, none⟩ = some (.slice so T.length sc) := by rw [cell_of_row w7 pb 0 _ _ (0, 0) (unhide HV7).box]; rfl
        go_wp2
        go_ret
        exact ⟨_, rfl, (unhide HV7).own, (unhide HV7).grown⟩
      · have hd : decide ((0 : Int) < (run : Int)) = false := decide_eq_false (by omega)
        rw [if_neg h0, List.append_nil] at hI2
        have HI2 := hide hI2
        clear hI hI2
        obtain ⟨so, sc, rfl⟩ := own_form (unhide HV).own
        have c0 : wr.cell? ⟨pb, 0, none⟩ = some (.slice so I.length sc) := by rw [cell_of_row wr pb 0 _ _ (0, 0) (unhide HV).box]; rfl
        go_wp2
        go_ret
        exact ⟨_, rfl, by rw [← unhide HI2]; exact (unhide HV).own, (unhide HV).grown⟩

end Go.Proofs.Ytmomfopbdpgcgab
