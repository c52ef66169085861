/-
  The list of items, in the program.
-/
import Derived.Test.YtmomfopbdpgcgabRunImpl5
namespace Go.Proofs.Ytmomfopbdpgcgab
open Go.RowKit

set_option maxRecDepth 20000 in
set_option maxHeartbeats 1600000 in
theorem implEqual (ao : Option Addr) (n ca : Nat) (I : List It) (bo : Option Addr) (m cb : Nat) (J : List It) (w : World) (ha : RdT w ao n I) (hb : RdT w bo m J) (hm : m ≤ 4194304) (t : Bool) (HT : Hid (decide (I = J) = t)) :
    Calls Try.prog 19 #[.slice ao n ca, .slice bo m cb] w fun e w' => e = .returned (.bool t) ∧ w.grownBy w' none := by
  have hl := ha.1
  have hl2 := hb.1
  have HA := hide ha
  have HB := hide hb
  clear ha hb
  by_cases hnm : n = m
  · subst hnm
    have hnn : ((n : Int) != (n : Int)) = false := by simp
    have HL1 := hide hl
    have HL2 := hide hl2
    clear hl hl2
    go_enter Try.func19, Try.ntmps19
    go_wp2
    go_loopw [13] (fun i wr => ∃ k : Nat, k ≤ n ∧ i = .int .i64 k ∧ Hid (I.take k = J.take k) ∧ Hid (w.grownBy wr none)) (fun i _ => n - (intOf i).toNat)
    case atStart => exact ⟨0, Nat.zero_le _, rfl, rfl, World.grownBy.refl _ _⟩
    case round =>
      obtain ⟨k, hk, rfl, htk, hg⟩ := hrel
      by_cases hlt : k < n
      · obtain ⟨rb, roff, rfl, a0, a1, a2⟩ := ((unhide HA).grown (unhide hg)).2 k hlt
        obtain ⟨ib, ioff, rfl, c0, c1, c2⟩ := ((unhide HB).grown (unhide hg)).2 k hlt
        have h1 : k < I.length := by have := unhide HL1; omega
        have h2 : k < J.length := by have := unhide HL2; omega
        have hRt : I.take (k + 1) = I.take k ++ [I.getD k (0, 0, 0)] := by rw [List.take_succ_eq_append_getElem h1]; simp [h1]
        have hIt : J.take (k + 1) = J.take k ++ [J.getD k (0, 0, 0)] := by rw [List.take_succ_eq_append_getElem h2]; simp [h2]
        have hIR : I.getD k (0, 0, 0) ≠ J.getD k (0, 0, 0) → I ≠ J := fun h e => h (by rw [e])
        generalize I.getD k (0, 0, 0) = x at *
        generalize J.getD k (0, 0, 0) = y at *
        obtain ⟨x0, x1, x2⟩ := x
        obtain ⟨y0, y1, y2⟩ := y
        dsimp only at a0 a1 a2 c0 c1 c2
        have hkI : (k : Int) < (n : Int) := by omega
        have HEQ : Hid (x0 = y0 → x1 = y1 → x2 = y2 → I.take (k + 1) = J.take (k + 1)) := fun h0 h1 h2 => by rw [hRt, hIt, unhide htk, h0, h1, h2]
        have HNE : Hid (¬ (x0 = y0 ∧ x1 = y1 ∧ x2 = y2) → t = false) := fun h => by rw [← unhide HT]; exact decide_eq_false (hIR (fun e => h (by simpa using e)))
        clear hRt hIt hIR htk h1 h2
        go_wp2
        cases he0 : (x0 == y0) <;> cases he1 : (x1 == y1) <;> cases he2 : (x2 == y2)
        all_goals (go_quiet (fail))
        all_goals go_wp2
        all_goals first
          | (go_ret
             have ht := unhide HNE (fun h => by first | exact ne_of_beq_false he0 h.1 | exact ne_of_beq_false he1 h.2.1 | exact ne_of_beq_false he2 h.2.2)
             exact ⟨ret_bool ht.symm, grown_drewN (unhide hg) _⟩)
          | skip
        go_roundw
        case rel => exact ⟨k + 1, by omega, by go_num, unhide HEQ (eq_of_beq he0) (eq_of_beq he1) (eq_of_beq he2), grown_drewN (unhide hg) _⟩
        case measure => simp [intOf]; omega
      · obtain rfl : k = n := by omega
        have ht : t = true := by
          rw [← unhide HT]
          have h := unhide htk
          have e1 := unhide HL1
          have e2 := unhide HL2
          rw [List.take_of_length_le (by omega), List.take_of_length_le (by omega)] at h
          exact decide_eq_true h
        subst ht
        go_wp2
        go_ret
        exact ⟨rfl, unhide hg⟩
  · have hnn : ((n : Int) != (m : Int)) = true := by simp; omega
    have ht : t = false := by
      rw [← unhide HT]
      exact decide_eq_false (fun e => hnm (by rw [← hl, ← hl2, e]))
    subst ht
    clear hl hl2
    go_enter Try.func19, Try.ntmps19
    go_wp2
    go_ret
    exact ⟨rfl, World.grownBy.refl _ _⟩

theorem nil_own {w : World} {B : Nat} {e : TypeId} : w.ownsRow B e 1 (.slice none 0 0) ([] : List Int).length (([] : List Int).map (Value.int .i64)) := ⟨rfl, .inl ⟨rfl, rfl⟩⟩

set_option maxRecDepth 20000 in
set_option maxHeartbeats 1600000 in
theorem implFrom7 (io : Option Addr) (m ic : Nat) (I : List It) (w : World) (hr : RdT w io m I) (z : Int) (ys : List Int) (ok : Bool) (HF : Hid (fromG I z = (ys, ok))) :
    Calls Try.prog 7 #[.slice io m ic, .int .i64 z] w fun e w' => ∃ v, e = .returned (.tuple #[v, .bool ok]) ∧ w'.ownsRow w.heap.size 3 1 v ys.length (ys.map (Value.int .i64)) ∧ w.grownBy w' none := by
  have HR := hide hr
  clear hr
  by_cases hz : 0 ≤ z ∧ z ≤ 64
  · have HD : Hid (decide (0 ≤ z ∧ z ≤ 64) = true) := decide_eq_true hz
    obtain ⟨M, rfl⟩ := Int.eq_ofNat_of_zero_le hz.1
    have hM : M ≤ 64 := by omega
    have hf := unhide HF
    rw [from_lay I M hM] at hf
    obtain ⟨R, HRR⟩ : ∃ R, Hid (layGo M [] I = R) := ⟨_, rfl⟩
    rw [unhide HRR] at hf
    clear HF hz
    cases R with
    | none =>
      simp only [Prod.mk.injEq] at hf
      obtain ⟨rfl, rfl⟩ := hf
      go_enter Try.func7, Try.ntmps7
      go_wp2_with fail
      refine (inRange7 (M : Int) 0 64 true HD w).mono ?_
      rintro e w1 ⟨rfl, rfl⟩
      go_wp2_with fail
      refine (implLaidOut io m ic I _ (unhide HR) M hM none HRR).mono ?_
      rintro e w2 ⟨v, rfl, o2, g2⟩
      obtain ⟨so, sc, rfl⟩ := own_form o2
      have HG := hide g2
      clear o2 g2
      go_wp2
      refine bodyPost_ret (v := .tuple #[.slice none 0 0, .bool false]) (by simp [results, Try.results7, go_sem, *]) rfl ?_
      exact ⟨_, rfl, nil_own, unhide HG⟩
    | some X =>
      obtain ⟨hX, hXl⟩ := lay_coef I [] X (unhide HRR) rfl (Nat.zero_le _)
      dsimp only at hf
      obtain ⟨t, HTT⟩ : ∃ t, Hid (decide (I = runsGo 0 X) = t) := ⟨_, rfl⟩
      have hrl := runsGo_len 0 X
      obtain ⟨J, HJ⟩ : ∃ J, Hid (runsGo 0 X = J) := ⟨_, rfl⟩
      rw [unhide HJ] at HTT hf hrl
      have HHF := hide hf
      have HXL := hide hXl
      clear hX hXl hf
      go_enter Try.func7, Try.ntmps7
      go_wp2_with fail
      refine (inRange7 (M : Int) 0 64 true HD w).mono ?_
      rintro e w1 ⟨rfl, rfl⟩
      go_wp2_with fail
      refine (implLaidOut io m ic I _ (unhide HR) M hM (some X) HRR).mono ?_
      rintro e w2 ⟨v, rfl, o2, g2⟩
      rw [Option.getD_some] at o2
      obtain ⟨so, sc, rfl⟩ := own_form o2
      have HO2 := hide o2
      have HG2 := hide g2
      clear o2 g2
      go_wp2_with fail
      refine (implRunsGo so X.length sc X _ (own_rd (unhide HO2)) (by have := unhide HXL; omega)).mono ?_
      rw [unhide HJ]
      rintro e w3 ⟨v3, rfl, o3, g3⟩
      obtain ⟨so3, sc3, rfl⟩ := own_form o3
      have HR3 := hide (own_rdT o3)
      have HO3 := hide (own_grown (unhide HO2) g3)
      have HG3 := hide (grown_trans (unhide HG2) g3)
      have HI3 := hide ((unhide HR).grown (unhide HG3))
      clear o3 g3 HO2 HG2
      go_wp2_with fail
      refine (implEqual io m ic I so3 J.length sc3 J _ (unhide HI3) (unhide HR3) (by have := unhide HXL; omega) t HTT).mono ?_
      rintro e w4 ⟨rfl, g4⟩
      have HO4 := hide (own_grown (unhide HO3) g4)
      have HG4 := hide (grown_trans (unhide HG3) g4)
      clear g4 HO3 HG3 HI3 HR3
      cases t with
      | true =>
        have hIJ : J = I := (of_decide_eq_true (unhide HTT)).symm
        have hf := unhide HHF
        rw [if_pos hIJ] at hf
        simp only [Prod.mk.injEq] at hf
        obtain ⟨rfl, rfl⟩ := hf
        clear hIJ
        go_wp2
        refine bodyPost_ret (v := .tuple #[.slice so X.length sc, .bool true]) (by simp [results, Try.results7, go_sem, *]) rfl ?_
        exact ⟨_, rfl, unhide HO4, unhide HG4⟩
      | false =>
        have hIJ : ¬ J = I := fun e => of_decide_eq_false (unhide HTT) e.symm
        have hf := unhide HHF
        rw [if_neg hIJ] at hf
        simp only [Prod.mk.injEq] at hf
        obtain ⟨rfl, rfl⟩ := hf
        clear hIJ
        go_wp2
        refine bodyPost_ret (v := .tuple #[.slice none 0 0, .bool false]) (by simp [results, Try.results7, go_sem, *]) rfl ?_
        exact ⟨_, rfl, nil_own, unhide HG4⟩
  · have HD : Hid (decide (0 ≤ z ∧ z ≤ 64) = false) := decide_eq_false hz
    have hf : fromG I z = ([], false) := by
      unfold fromG
      rw [if_neg (fun h => hz h.1)]
    have hf2 := (unhide HF).symm.trans hf
    simp only [Prod.mk.injEq] at hf2
    obtain ⟨rfl, rfl⟩ := hf2
    clear hf HF hz
    go_enter Try.func7, Try.ntmps7
    go_wp2_with fail
    refine (inRange7 z 0 64 false HD w).mono ?_
    rintro e w1 ⟨rfl, rfl⟩
    go_wp2
    refine bodyPost_ret (v := .tuple #[.slice none 0 0, .bool false]) (by simp [results, Try.results7, go_sem, *]) rfl ?_
    exact ⟨_, rfl, nil_own, World.grownBy.refl _ _⟩

end Go.Proofs.Ytmomfopbdpgcgab
