/-
  A number's bins, in the specification.
-/
import Derived.Test.YtekidfkahpaokaaNumsList
import Derived.Test.YtekidfkahpaokaaRunSpec
import Derived.Test.YtekidfkahpaokaaBinRows
namespace Go.Proofs.Ytekidfkahpaokaa
open Go.RowKit

theorem and1_shr (a i : Nat) (ha : a ≤ 32767) : bits BinOp.and IntKind.i64 ((a : Int) / 2 ^ i) 1 = ((a / 2 ^ i % 2 : Nat) : Int) := by
  have e : (a : Int) / 2 ^ i = ((a / 2 ^ i : Nat) : Int) := by simp
  have hle : a / 2 ^ i ≤ a := Nat.div_le_self _ _
  rw [e]
  generalize a / 2 ^ i = q at hle
  rw [and1_i64 _ (by omega) (by omega)]
  omega
theorem binI_cons (x : Nat × Nat) (l : List (Nat × Nat)) : (x :: l).map binI = ((x.1 : Int), (x.2 : Int)) :: l.map binI := rfl
theorem app_cons (X : List (Int × Int)) (p : Int × Int) (l : List (Int × Int)) : X ++ p :: l = (X ++ [p]) ++ l := by simp

set_option maxRecDepth 20000 in
set_option maxHeartbeats 3200000 in
theorem specBins (n : Int) (base : Nat) (hn : coefB n = true) (hb : base ≤ 380) (L : List (Int × Int)) (HL : Hid (binsI base n = L)) (w : World) :
    Calls Try.prog 38 #[.int .i64 n, .int .i64 base] w fun e w' => ∃ bo cap', e = .returned (.slice bo L.length cap') ∧ w'.ownsRow w.heap.size 30 2 (.slice bo L.length cap') L.length (flat L) ∧ w.grownBy w' none := by
  have hLl : L.length ≤ 31 := by rw [← unhide HL]; exact binsI_len hn
  have hnb : -32767 ≤ n ∧ n ≤ 32767 := of_decide_eq_true hn
  by_cases h0 : n = 0
  · subst h0
    have e : L = [((base : Int), 1)] := by rw [← unhide HL, binsI, numL, if_pos rfl]; rfl
    subst e
    have HF : Hid ((w.alloc (.cells #[.int .i64 (base : Int), .int .i64 1] 30)).ownsRow w.heap.size 30 2 (.slice (some ⟨w.heap.size, 0, none⟩) 1 1) 1 (flat [((base : Int), 1)])) := World.ownsRow_lit w #[.int .i64 (base : Int), .int .i64 1] 1 (Nat.le_refl _) (by unfold maxLen; omega) rfl
    clear HL hn
    go_enter Try.func38, Try.ntmps38
    go_wp2
    go_ret
    exact ⟨_, _, rfl, unhide HF, World.grownBy_alloc _ _ _⟩
  · have hc1 : 0 < cls n.natAbs := cls_pos.2 (by omega)
    have hc2 := cls_le (coef_nat hn)
    have HCL : Hid (classI n = (cls n.natAbs : Int)) := by unfold Hid classI; rw [hn]; rfl
    obtain ⟨k, hk⟩ : ∃ k, cls n.natAbs = k := ⟨_, rfl⟩
    rw [hk] at HCL hc1 hc2
    obtain ⟨a, ha⟩ : ∃ a, n.natAbs = a := ⟨_, rfl⟩
    obtain ⟨sg, HSG⟩ : ∃ sg : Nat, Hid ((if n < 0 then 1 else 0) = sg) := ⟨_, rfl⟩
    have hL : L = [((base : Int), 0), ((base : Int) + 1, (sg : Int))] ++ ((upL base (k - 1) 1).map binI ++ (lowL base a (k - 1)).map binI) := by
      rw [← unhide HL, binsI, numL, if_neg h0, hk, unhide HSG, ha, absL, List.map_cons, List.map_cons, List.map_append]
      have e : ((base + 1 : Nat) : Int) = (base : Int) + 1 := by omega
      unfold binI
      dsimp only
      rw [e]; rfl
    have hab : a ≤ 32767 := by omega
    have e1 := i64_in ((base : Int) + 1) (by omega)
    have e18 := i64_in ((base : Int) + 18) (by omega)
    have HABS := hide (fun W => specAbs n hnb W)
    rw [ha] at HABS
    have hne : (n == 0) = false := by simp [h0]
    have HO0 : Hid ((w.alloc (.cells #[.int .i64 (base : Int), .int .i64 0, .int .i64 ((base : Int) + 1), .int .i64 (sg : Int)] 30)).ownsRow w.heap.size 30 2 (.slice (some ⟨w.heap.size, 0, none⟩) 2 2) 2 (flat [((base : Int), 0), ((base : Int) + 1, (sg : Int))])) := World.ownsRow_lit w #[.int .i64 (base : Int), .int .i64 0, .int .i64 ((base : Int) + 1), .int .i64 (sg : Int)] 2 (Nat.le_refl _) (by unfold maxLen; omega) rfl
    have HG0 : Hid (w.grownBy (w.alloc (.cells #[.int .i64 (base : Int), .int .i64 0, .int .i64 ((base : Int) + 1), .int .i64 (sg : Int)] 30)) none) := World.grownBy_alloc _ _ _
    have HLL := hide hL
    have HLN := hide hLl
    clear hL hLl hk ha HL hn
    have hsg : sg = 0 ∧ ¬ n < 0 ∨ sg = 1 ∧ n < 0 := by
      have := unhide HSG
      by_cases h : n < 0
      · rw [if_pos h] at this; exact .inr ⟨this.symm, h⟩
      · rw [if_neg h] at this; exact .inl ⟨this.symm, h⟩
    clear HSG
    rcases hsg with ⟨rfl, hs⟩ | ⟨rfl, hs⟩
    · have hd : decide (n < 0) = false := decide_eq_false hs
      go_enter Try.func38, Try.ntmps38
      go_wp2_with fail
      obtain ⟨w0, HW0⟩ : ∃ w0, Hid (w.alloc (.cells #[.int .i64 (base : Int), .int .i64 0, .int .i64 ((base : Int) + 1), .int .i64 0] 30) = w0) := ⟨_, rfl⟩
      have HO1 : Hid (w0.ownsRow w.heap.size 30 2 (.slice (some ⟨w.heap.size, 0, none⟩) 2 2) 2 (flat [((base : Int), 0), ((base : Int) + 1, 0)])) := by unfold Hid; rw [← unhide HW0]; exact unhide HO0
      have HG1 : Hid (w.grownBy w0 none) := by unfold Hid; rw [← unhide HW0]; exact unhide HG0
      rw [unhide HW0]
      clear HO0 HG0 HW0
      refine (specClassOf n k HCL w0).mono ?_
      rintro e w1 ⟨rfl, rfl⟩
      clear HCL
      go_wp2
      go_loopw [6, 8] (fun v iv wr => ∃ (i : Nat) (X : List (Int × Int)), 1 ≤ i ∧ i ≤ k ∧ iv = .int .i64 i ∧ Hid (wr.ownsRow w.heap.size 30 2 v X.length (flat X)) ∧ Hid (w.grownBy wr none) ∧ Hid (X ++ ((upL base (k - i) i).map binI ++ (lowL base a (k - 1)).map binI) = L)) (fun _ iv _ => k - (intOf iv).toNat)
      case atStart => exact ⟨1, [((base : Int), 0), ((base : Int) + 1, 0)], Nat.le_refl _, hc1, rfl, HO1, HG1, (unhide HLL).symm⟩
      case round =>
        clear HO1 HG1 HLL
        obtain ⟨i, X, hi1, hik, rfl, ho, hg, hX⟩ := hrel
        obtain ⟨so, sc, rfl⟩ := own_form (unhide ho)
        have HXL : Hid (X.length ≤ 31) := by
          have h1 := congrArg List.length (unhide hX)
          have h2 := unhide HLN
          rw [List.length_append] at h1
          unfold Hid; omega
        by_cases hlt : i < k
        · have hd2 : decide ((i : Int) < (k : Int)) = true := decide_eq_true (by omega)
          have e3 := i64_in ((base : Int) + 1 + (i : Int)) (by omega)
          have HX2 : Hid ((X ++ [((base : Int) + 1 + (i : Int), 1)]) ++ ((upL base (k - (i + 1)) (i + 1)).map binI ++ (lowL base a (k - 1)).map binI) = L) := by
            have h1 := unhide hX
            rw [show k - i = (k - (i + 1)) + 1 by omega, upL, List.map_cons, List.cons_append, app_cons] at h1
            have e : ((base + 1 + i : Nat) : Int) = (base : Int) + 1 + (i : Int) := by omega
            unfold binI at h1
            dsimp only at h1
            rw [e] at h1
            exact h1
          obtain ⟨R, HR⟩ : ∃ R : List (Int × Int), Hid (X ++ [((base : Int) + 1 + (i : Int), 1)] = R) := ⟨_, hide rfl⟩
          rw [unhide HR] at HX2
          have HB : Hid (w.heap.size ≤ wr.heap.size) := (unhide hg).size
          have HXB : Hid (X.length ≤ 1000000) := by have := unhide HXL; unfold Hid; omega
          clear hX
          go_wp2_with (at_builtin; refine append_bin rfl _ _ rfl w.heap.size (.slice so X.length sc) X rfl (unhide ho) ((base : Int) + 1 + (i : Int)) 1 _ rfl rfl (unhide HXB) (unhide HB) R (unhide HR) ?_)
          intro v7 w7 o7 g7
          obtain ⟨so7, sc7, rfl⟩ := own_form o7
          have HO7 := hide o7
          have HG7 : Hid (w.grownBy w7 none) := grown_new (unhide hg) g7 (fun g e => ((unhide ho).lt g e).1)
          clear o7 g7 ho hg HB
          go_wp2
          go_roundw
          case rel => exact ⟨i + 1, R, by omega, by omega, by go_num, HO7, HG7, HX2⟩
          case measure => simp [intOf]; omega
        · obtain rfl : i = k := by omega
          have hd2 : decide ((i : Int) < (i : Int)) = false := decide_eq_false (by omega)
          have hX1 := unhide hX
          rw [Nat.sub_self, upL] at hX1
          by_cases h15 : i < 15
          · rw [if_pos h15] at hX1
            have hd3 : decide ((i : Int) < 15) = true := decide_eq_true (by omega)
            have e3 := i64_in ((base : Int) + 1 + (i : Int)) (by omega)
            have e4 := i64_in ((i : Int) - 2) (by omega)
            have HX2 : Hid ((X ++ [((base : Int) + 1 + (i : Int), 0)]) ++ (lowL base a (i - 1)).map binI = L) := by
              rw [List.map_cons, List.map_nil, List.cons_append, List.nil_append, app_cons] at hX1
              have e : ((base + 1 + i : Nat) : Int) = (base : Int) + 1 + (i : Int) := by omega
              unfold binI at hX1
              dsimp only at hX1
              rw [e] at hX1
              exact hX1
            obtain ⟨R, HR⟩ : ∃ R : List (Int × Int), Hid (X ++ [((base : Int) + 1 + (i : Int), 0)] = R) := ⟨_, hide rfl⟩
            rw [unhide HR] at HX2
            have HB : Hid (w.heap.size ≤ wr.heap.size) := (unhide hg).size
            have HXB : Hid (X.length ≤ 1000000) := by have := unhide HXL; unfold Hid; omega
            clear hX hX1
            go_wp2_with (at_builtin; refine append_bin rfl _ _ rfl w.heap.size (.slice so X.length sc) X rfl (unhide ho) ((base : Int) + 1 + (i : Int)) 0 _ rfl rfl (unhide HXB) (unhide HB) R (unhide HR) ?_)
            intro v7 w7 o7 g7
            obtain ⟨so7, sc7, rfl⟩ := own_form o7
            have HO7 := hide o7
            have HG7 : Hid (w.grownBy w7 none) := grown_new (unhide hg) g7 (fun g e => ((unhide ho).lt g e).1)
            clear o7 g7 ho hg HB
            obtain ⟨wy, HWY⟩ : ∃ wy, Hid (wy = w7) := ⟨w7, rfl⟩
            go_wp2
            go_loopw [6, 9] (fun v iv wr => ∃ (j : Nat) (X : List (Int × Int)), j + 1 ≤ i ∧ iv = .int .i64 ((j : Int) - 1) ∧ Hid (wr.ownsRow w.heap.size 30 2 v X.length (flat X)) ∧ Hid (w.grownBy wr none) ∧ Hid (X ++ (lowL base a j).map binI = L)) (fun _ iv _ => (intOf iv + 1).toNat)
            case atStart => exact ⟨i - 1, R, by omega, by congr 1; omega, HO7, HG7, HX2⟩
            case round =>
              clear HO7 HG7 HX2
              obtain ⟨j, X, hj, rfl, ho, hg, hX⟩ := hrel
              obtain ⟨so, sc, rfl⟩ := own_form (unhide ho)
              have HXL : Hid (X.length ≤ 31) := by
                have h1 := congrArg List.length (unhide hX)
                have h2 := unhide HLN
                rw [List.length_append] at h1
                unfold Hid; omega
              cases j with
              | zero =>
                have hd4 : decide ((0 : Int) ≤ ((0 : Nat) : Int) - 1) = false := by decide
                have hX1 := unhide hX
                rw [lowL, List.map_nil, List.append_nil] at hX1
                have HXE := hide hX1
                clear hX hX1
                rw [unhide HXE] at ho ⊢
                go_wp2
                go_ret
                exact ⟨_, _, rfl, unhide ho, unhide hg⟩
              | succ j =>
                have ej : ((j + 1 : Nat) : Int) - 1 = (j : Int) := by omega
                rw [ej]
                have hd4 : decide ((0 : Int) ≤ (j : Int)) = true := decide_eq_true (by omega)
                have e5 := i64_in ((j : Int) - 1) (by omega)
                have HX2 : Hid ((X ++ [((base : Int) + 18, ((a / 2 ^ j % 2 : Nat) : Int))]) ++ (lowL base a j).map binI = L) := by
                  have h1 := unhide hX
                  rw [lowL, List.map_cons, app_cons] at h1
                  have e : ((base + 18 : Nat) : Int) = (base : Int) + 18 := by omega
                  unfold binI at h1
                  dsimp only at h1
                  rw [e] at h1
                  exact h1
                have eb := and1_shr a j hab
                obtain ⟨bt, HBT⟩ : ∃ bt, Hid (a / 2 ^ j % 2 = bt) := ⟨_, rfl⟩
                rw [unhide HBT] at HX2 eb
                obtain ⟨R, HR⟩ : ∃ R : List (Int × Int), Hid (X ++ [((base : Int) + 18, (bt : Int))] = R) := ⟨_, hide rfl⟩
                rw [unhide HR] at HX2
                have hdq : 0 ≤ (a : Int) / 2 ^ j ∧ (a : Int) / 2 ^ j < 65536 := shr_small (a : Int) (by omega) (by omega) j
                have e6 := i64_in ((a : Int) / 2 ^ j) (by omega)
                have HB : Hid (w.heap.size ≤ wr.heap.size) := (unhide hg).size
                have HXB : Hid (X.length ≤ 1000000) := by have := unhide HXL; unfold Hid; omega
                clear hX
                go_wp2_with fail
                refine (unhide HABS wr).mono ?_
                rintro e w5 ⟨rfl, rfl⟩
                go_wp2_with (at_builtin; refine append_bin rfl _ _ rfl w.heap.size (.slice so X.length sc) X rfl (unhide ho) ((base : Int) + 18) (bt : Int) _ rfl rfl (unhide HXB) (unhide HB) R (unhide HR) ?_)
                intro v7 w7 o7 g7
                obtain ⟨so7, sc7, rfl⟩ := own_form o7
                have HO7 := hide o7
                have HG7 : Hid (w.grownBy w7 none) := grown_new (unhide hg) g7 (fun g e => ((unhide ho).lt g e).1)
                clear o7 g7 ho hg HB
                go_wp2
                go_roundw
                case rel => exact ⟨j, R, by omega, by go_num, HO7, HG7, HX2⟩
                case measure => simp [intOf]
          · rw [if_neg h15] at hX1
            have hd3 : decide ((i : Int) < 15) = false := decide_eq_false (by omega)
            have e4 := i64_in ((i : Int) - 2) (by omega)
            have HX2 : Hid (X ++ (lowL base a (i - 1)).map binI = L) := hX1
            have HO7 := ho
            have HG7 := hg
            clear hX hX1 ho hg
            obtain ⟨R, HR⟩ : ∃ R, Hid (X = R) := ⟨_, rfl⟩
            rw [unhide HR] at HX2 HO7 ⊢
            go_wp2
            go_loopw [6, 9] (fun v iv wr => ∃ (j : Nat) (X : List (Int × Int)), j + 1 ≤ i ∧ iv = .int .i64 ((j : Int) - 1) ∧ Hid (wr.ownsRow w.heap.size 30 2 v X.length (flat X)) ∧ Hid (w.grownBy wr none) ∧ Hid (X ++ (lowL base a j).map binI = L)) (fun _ iv _ => (intOf iv + 1).toNat)
            case atStart => exact ⟨i - 1, R, by omega, by congr 1; omega, HO7, HG7, HX2⟩
            case round =>
              clear HO7 HG7 HX2
              obtain ⟨j, X, hj, rfl, ho, hg, hX⟩ := hrel
              obtain ⟨so, sc, rfl⟩ := own_form (unhide ho)
              have HXL : Hid (X.length ≤ 31) := by
                have h1 := congrArg List.length (unhide hX)
                have h2 := unhide HLN
                rw [List.length_append] at h1
                unfold Hid; omega
              cases j with
              | zero =>
                have hd4 : decide ((0 : Int) ≤ ((0 : Nat) : Int) - 1) = false := by decide
                have hX1 := unhide hX
                rw [lowL, List.map_nil, List.append_nil] at hX1
                have HXE := hide hX1
                clear hX hX1
                rw [unhide HXE] at ho ⊢
                go_wp2
                go_ret
                exact ⟨_, _, rfl, unhide ho, unhide hg⟩
              | succ j =>
                have ej : ((j + 1 : Nat) : Int) - 1 = (j : Int) := by omega
                rw [ej]
                have hd4 : decide ((0 : Int) ≤ (j : Int)) = true := decide_eq_true (by omega)
                have e5 := i64_in ((j : Int) - 1) (by omega)
                have HX2 : Hid ((X ++ [((base : Int) + 18, ((a / 2 ^ j % 2 : Nat) : Int))]) ++ (lowL base a j).map binI = L) := by
                  have h1 := unhide hX
                  rw [lowL, List.map_cons, app_cons] at h1
                  have e : ((base + 18 : Nat) : Int) = (base : Int) + 18 := by omega
                  unfold binI at h1
                  dsimp only at h1
                  rw [e] at h1
                  exact h1
                have eb := and1_shr a j hab
                obtain ⟨bt, HBT⟩ : ∃ bt, Hid (a / 2 ^ j % 2 = bt) := ⟨_, rfl⟩
                rw [unhide HBT] at HX2 eb
                obtain ⟨R, HR⟩ : ∃ R : List (Int × Int), Hid (X ++ [((base : Int) + 18, (bt : Int))] = R) := ⟨_, hide rfl⟩
                rw [unhide HR] at HX2
                have hdq : 0 ≤ (a : Int) / 2 ^ j ∧ (a : Int) / 2 ^ j < 65536 := shr_small (a : Int) (by omega) (by omega) j
                have e6 := i64_in ((a : Int) / 2 ^ j) (by omega)
                have HB : Hid (w.heap.size ≤ wr.heap.size) := (unhide hg).size
                have HXB : Hid (X.length ≤ 1000000) := by have := unhide HXL; unfold Hid; omega
                clear hX
                go_wp2_with fail
                refine (unhide HABS wr).mono ?_
                rintro e w5 ⟨rfl, rfl⟩
                go_wp2_with (at_builtin; refine append_bin rfl _ _ rfl w.heap.size (.slice so X.length sc) X rfl (unhide ho) ((base : Int) + 18) (bt : Int) _ rfl rfl (unhide HXB) (unhide HB) R (unhide HR) ?_)
                intro v7 w7 o7 g7
                obtain ⟨so7, sc7, rfl⟩ := own_form o7
                have HO7 := hide o7
                have HG7 : Hid (w.grownBy w7 none) := grown_new (unhide hg) g7 (fun g e => ((unhide ho).lt g e).1)
                clear o7 g7 ho hg HB
                go_wp2
                go_roundw
                case rel => exact ⟨j, R, by omega, by go_num, HO7, HG7, HX2⟩
                case measure => simp [intOf]
    · have hd : decide (n < 0) = true := decide_eq_true hs
      go_enter Try.func38, Try.ntmps38
      go_wp2_with fail
      obtain ⟨w0, HW0⟩ : ∃ w0, Hid (w.alloc (.cells #[.int .i64 (base : Int), .int .i64 0, .int .i64 ((base : Int) + 1), .int .i64 1] 30) = w0) := ⟨_, rfl⟩
      have HO1 : Hid (w0.ownsRow w.heap.size 30 2 (.slice (some ⟨w.heap.size, 0, none⟩) 2 2) 2 (flat [((base : Int), 0), ((base : Int) + 1, 1)])) := by unfold Hid; rw [← unhide HW0]; exact unhide HO0
      have HG1 : Hid (w.grownBy w0 none) := by unfold Hid; rw [← unhide HW0]; exact unhide HG0
      rw [unhide HW0]
      clear HO0 HG0 HW0
      refine (specClassOf n k HCL w0).mono ?_
      rintro e w1 ⟨rfl, rfl⟩
      clear HCL
      go_wp2
      go_loopw [6, 8] (fun v iv wr => ∃ (i : Nat) (X : List (Int × Int)), 1 ≤ i ∧ i ≤ k ∧ iv = .int .i64 i ∧ Hid (wr.ownsRow w.heap.size 30 2 v X.length (flat X)) ∧ Hid (w.grownBy wr none) ∧ Hid (X ++ ((upL base (k - i) i).map binI ++ (lowL base a (k - 1)).map binI) = L)) (fun _ iv _ => k - (intOf iv).toNat)
      case atStart => exact ⟨1, [((base : Int), 0), ((base : Int) + 1, 1)], Nat.le_refl _, hc1, rfl, HO1, HG1, (unhide HLL).symm⟩
      case round =>
        clear HO1 HG1 HLL
        obtain ⟨i, X, hi1, hik, rfl, ho, hg, hX⟩ := hrel
        obtain ⟨so, sc, rfl⟩ := own_form (unhide ho)
        have HXL : Hid (X.length ≤ 31) := by
          have h1 := congrArg List.length (unhide hX)
          have h2 := unhide HLN
          rw [List.length_append] at h1
          unfold Hid; omega
        by_cases hlt : i < k
        · have hd2 : decide ((i : Int) < (k : Int)) = true := decide_eq_true (by omega)
          have e3 := i64_in ((base : Int) + 1 + (i : Int)) (by omega)
          have HX2 : Hid ((X ++ [((base : Int) + 1 + (i : Int), 1)]) ++ ((upL base (k - (i + 1)) (i + 1)).map binI ++ (lowL base a (k - 1)).map binI) = L) := by
            have h1 := unhide hX
            rw [show k - i = (k - (i + 1)) + 1 by omega, upL, List.map_cons, List.cons_append, app_cons] at h1
            have e : ((base + 1 + i : Nat) : Int) = (base : Int) + 1 + (i : Int) := by omega
            unfold binI at h1
            dsimp only at h1
            rw [e] at h1
            exact h1
          obtain ⟨R, HR⟩ : ∃ R : List (Int × Int), Hid (X ++ [((base : Int) + 1 + (i : Int), 1)] = R) := ⟨_, hide rfl⟩
          rw [unhide HR] at HX2
          have HB : Hid (w.heap.size ≤ wr.heap.size) := (unhide hg).size
          have HXB : Hid (X.length ≤ 1000000) := by have := unhide HXL; unfold Hid; omega
          clear hX
          go_wp2_with (at_builtin; refine append_bin rfl _ _ rfl w.heap.size (.slice so X.length sc) X rfl (unhide ho) ((base : Int) + 1 + (i : Int)) 1 _ rfl rfl (unhide HXB) (unhide HB) R (unhide HR) ?_)
          intro v7 w7 o7 g7
          obtain ⟨so7, sc7, rfl⟩ := own_form o7
          have HO7 := hide o7
          have HG7 : Hid (w.grownBy w7 none) := grown_new (unhide hg) g7 (fun g e => ((unhide ho).lt g e).1)
          clear o7 g7 ho hg HB
          go_wp2
          go_roundw
          case rel => exact ⟨i + 1, R, by omega, by omega, by go_num, HO7, HG7, HX2⟩
          case measure => simp [intOf]; omega
        · obtain rfl : i = k := by omega
          have hd2 : decide ((i : Int) < (i : Int)) = false := decide_eq_false (by omega)
          have hX1 := unhide hX
          rw [Nat.sub_self, upL] at hX1
          by_cases h15 : i < 15
          · rw [if_pos h15] at hX1
            have hd3 : decide ((i : Int) < 15) = true := decide_eq_true (by omega)
            have e3 := i64_in ((base : Int) + 1 + (i : Int)) (by omega)
            have e4 := i64_in ((i : Int) - 2) (by omega)
            have HX2 : Hid ((X ++ [((base : Int) + 1 + (i : Int), 0)]) ++ (lowL base a (i - 1)).map binI = L) := by
              rw [List.map_cons, List.map_nil, List.cons_append, List.nil_append, app_cons] at hX1
              have e : ((base + 1 + i : Nat) : Int) = (base : Int) + 1 + (i : Int) := by omega
              unfold binI at hX1
              dsimp only at hX1
              rw [e] at hX1
              exact hX1
            obtain ⟨R, HR⟩ : ∃ R : List (Int × Int), Hid (X ++ [((base : Int) + 1 + (i : Int), 0)] = R) := ⟨_, hide rfl⟩
            rw [unhide HR] at HX2
            have HB : Hid (w.heap.size ≤ wr.heap.size) := (unhide hg).size
            have HXB : Hid (X.length ≤ 1000000) := by have := unhide HXL; unfold Hid; omega
            clear hX hX1
            go_wp2_with (at_builtin; refine append_bin rfl _ _ rfl w.heap.size (.slice so X.length sc) X rfl (unhide ho) ((base : Int) + 1 + (i : Int)) 0 _ rfl rfl (unhide HXB) (unhide HB) R (unhide HR) ?_)
            intro v7 w7 o7 g7
            obtain ⟨so7, sc7, rfl⟩ := own_form o7
            have HO7 := hide o7
            have HG7 : Hid (w.grownBy w7 none) := grown_new (unhide hg) g7 (fun g e => ((unhide ho).lt g e).1)
            clear o7 g7 ho hg HB
            obtain ⟨wy, HWY⟩ : ∃ wy, Hid (wy = w7) := ⟨w7, rfl⟩
            go_wp2
            go_loopw [6, 9] (fun v iv wr => ∃ (j : Nat) (X : List (Int × Int)), j + 1 ≤ i ∧ iv = .int .i64 ((j : Int) - 1) ∧ Hid (wr.ownsRow w.heap.size 30 2 v X.length (flat X)) ∧ Hid (w.grownBy wr none) ∧ Hid (X ++ (lowL base a j).map binI = L)) (fun _ iv _ => (intOf iv + 1).toNat)
            case atStart => exact ⟨i - 1, R, by omega, by congr 1; omega, HO7, HG7, HX2⟩
            case round =>
              clear HO7 HG7 HX2
              obtain ⟨j, X, hj, rfl, ho, hg, hX⟩ := hrel
              obtain ⟨so, sc, rfl⟩ := own_form (unhide ho)
              have HXL : Hid (X.length ≤ 31) := by
                have h1 := congrArg List.length (unhide hX)
                have h2 := unhide HLN
                rw [List.length_append] at h1
                unfold Hid; omega
              cases j with
              | zero =>
                have hd4 : decide ((0 : Int) ≤ ((0 : Nat) : Int) - 1) = false := by decide
                have hX1 := unhide hX
                rw [lowL, List.map_nil, List.append_nil] at hX1
                have HXE := hide hX1
                clear hX hX1
                rw [unhide HXE] at ho ⊢
                go_wp2
                go_ret
                exact ⟨_, _, rfl, unhide ho, unhide hg⟩
              | succ j =>
                have ej : ((j + 1 : Nat) : Int) - 1 = (j : Int) := by omega
                rw [ej]
                have hd4 : decide ((0 : Int) ≤ (j : Int)) = true := decide_eq_true (by omega)
                have e5 := i64_in ((j : Int) - 1) (by omega)
                have HX2 : Hid ((X ++ [((base : Int) + 18, ((a / 2 ^ j % 2 : Nat) : Int))]) ++ (lowL base a j).map binI = L) := by
                  have h1 := unhide hX
                  rw [lowL, List.map_cons, app_cons] at h1
                  have e : ((base + 18 : Nat) : Int) = (base : Int) + 18 := by omega
                  unfold binI at h1
                  dsimp only at h1
                  rw [e] at h1
                  exact h1
                have eb := and1_shr a j hab
                obtain ⟨bt, HBT⟩ : ∃ bt, Hid (a / 2 ^ j % 2 = bt) := ⟨_, rfl⟩
                rw [unhide HBT] at HX2 eb
                obtain ⟨R, HR⟩ : ∃ R : List (Int × Int), Hid (X ++ [((base : Int) + 18, (bt : Int))] = R) := ⟨_, hide rfl⟩
                rw [unhide HR] at HX2
                have hdq : 0 ≤ (a : Int) / 2 ^ j ∧ (a : Int) / 2 ^ j < 65536 := shr_small (a : Int) (by omega) (by omega) j
                have e6 := i64_in ((a : Int) / 2 ^ j) (by omega)
                have HB : Hid (w.heap.size ≤ wr.heap.size) := (unhide hg).size
                have HXB : Hid (X.length ≤ 1000000) := by have := unhide HXL; unfold Hid; omega
                clear hX
                go_wp2_with fail
                refine (unhide HABS wr).mono ?_
                rintro e w5 ⟨rfl, rfl⟩
                go_wp2_with (at_builtin; refine append_bin rfl _ _ rfl w.heap.size (.slice so X.length sc) X rfl (unhide ho) ((base : Int) + 18) (bt : Int) _ rfl rfl (unhide HXB) (unhide HB) R (unhide HR) ?_)
                intro v7 w7 o7 g7
                obtain ⟨so7, sc7, rfl⟩ := own_form o7
                have HO7 := hide o7
                have HG7 : Hid (w.grownBy w7 none) := grown_new (unhide hg) g7 (fun g e => ((unhide ho).lt g e).1)
                clear o7 g7 ho hg HB
                go_wp2
                go_roundw
                case rel => exact ⟨j, R, by omega, by go_num, HO7, HG7, HX2⟩
                case measure => simp [intOf]
          · rw [if_neg h15] at hX1
            have hd3 : decide ((i : Int) < 15) = false := decide_eq_false (by omega)
            have e4 := i64_in ((i : Int) - 2) (by omega)
            have HX2 : Hid (X ++ (lowL base a (i - 1)).map binI = L) := hX1
            have HO7 := ho
            have HG7 := hg
            clear hX hX1 ho hg
            obtain ⟨R, HR⟩ : ∃ R, Hid (X = R) := ⟨_, rfl⟩
            rw [unhide HR] at HX2 HO7 ⊢
            go_wp2
            go_loopw [6, 9] (fun v iv wr => ∃ (j : Nat) (X : List (Int × Int)), j + 1 ≤ i ∧ iv = .int .i64 ((j : Int) - 1) ∧ Hid (wr.ownsRow w.heap.size 30 2 v X.length (flat X)) ∧ Hid (w.grownBy wr none) ∧ Hid (X ++ (lowL base a j).map binI = L)) (fun _ iv _ => (intOf iv + 1).toNat)
            case atStart => exact ⟨i - 1, R, by omega, by congr 1; omega, HO7, HG7, HX2⟩
            case round =>
              clear HO7 HG7 HX2
              obtain ⟨j, X, hj, rfl, ho, hg, hX⟩ := hrel
              obtain ⟨so, sc, rfl⟩ := own_form (unhide ho)
              have HXL : Hid (X.length ≤ 31) := by
                have h1 := congrArg List.length (unhide hX)
                have h2 := unhide HLN
                rw [List.length_append] at h1
                unfold Hid; omega
              cases j with
              | zero =>
                have hd4 : decide ((0 : Int) ≤ ((0 : Nat) : Int) - 1) = false := by decide
                have hX1 := unhide hX
                rw [lowL, List.map_nil, List.append_nil] at hX1
                have HXE := hide hX1
                clear hX hX1
                rw [unhide HXE] at ho ⊢
                go_wp2
                go_ret
                exact ⟨_, _, rfl, unhide ho, unhide hg⟩
              | succ j =>
                have ej : ((j + 1 : Nat) : Int) - 1 = (j : Int) := by omega
                rw [ej]
                have hd4 : decide ((0 : Int) ≤ (j : Int)) = true := decide_eq_true (by omega)
                have e5 := i64_in ((j : Int) - 1) (by omega)
                have HX2 : Hid ((X ++ [((base : Int) + 18, ((a / 2 ^ j % 2 : Nat) : Int))]) ++ (lowL base a j).map binI = L) := by
                  have h1 := unhide hX
                  rw [lowL, List.map_cons, app_cons] at h1
                  have e : ((base + 18 : Nat) : Int) = (base : Int) + 18 := by omega
                  unfold binI at h1
                  dsimp only at h1
                  rw [e] at h1
                  exact h1
                have eb := and1_shr a j hab
                obtain ⟨bt, HBT⟩ : ∃ bt, Hid (a / 2 ^ j % 2 = bt) := ⟨_, rfl⟩
                rw [unhide HBT] at HX2 eb
                obtain ⟨R, HR⟩ : ∃ R : List (Int × Int), Hid (X ++ [((base : Int) + 18, (bt : Int))] = R) := ⟨_, hide rfl⟩
                rw [unhide HR] at HX2
                have hdq : 0 ≤ (a : Int) / 2 ^ j ∧ (a : Int) / 2 ^ j < 65536 := shr_small (a : Int) (by omega) (by omega) j
                have e6 := i64_in ((a : Int) / 2 ^ j) (by omega)
                have HB : Hid (w.heap.size ≤ wr.heap.size) := (unhide hg).size
                have HXB : Hid (X.length ≤ 1000000) := by have := unhide HXL; unfold Hid; omega
                clear hX
                go_wp2_with fail
                refine (unhide HABS wr).mono ?_
                rintro e w5 ⟨rfl, rfl⟩
                go_wp2_with (at_builtin; refine append_bin rfl _ _ rfl w.heap.size (.slice so X.length sc) X rfl (unhide ho) ((base : Int) + 18) (bt : Int) _ rfl rfl (unhide HXB) (unhide HB) R (unhide HR) ?_)
                intro v7 w7 o7 g7
                obtain ⟨so7, sc7, rfl⟩ := own_form o7
                have HO7 := hide o7
                have HG7 : Hid (w.grownBy w7 none) := grown_new (unhide hg) g7 (fun g e => ((unhide ho).lt g e).1)
                clear o7 g7 ho hg HB
                go_wp2
                go_roundw
                case rel => exact ⟨j, R, by omega, by go_num, HO7, HG7, HX2⟩
                case measure => simp [intOf]

end Go.Proofs.Ytekidfkahpaokaa
