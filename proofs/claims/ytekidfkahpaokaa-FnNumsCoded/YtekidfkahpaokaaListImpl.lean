/-
  ListBins and BinsOf of the program.
-/
import Derived.Test.YtekidfkahpaokaaTellNum
namespace Go.Proofs.Ytekidfkahpaokaa
open Go.RowKit

set_option maxHeartbeats 800000 in
theorem implCoefs10 (ao : Option Addr) (n cap : Nat) (xs : List Int) (w : World) (hr : Rd .i64 w ao n xs) (hn : n ≤ 4194304) (b : Bool) (HB : Hid (xs.all coefB = b)) :
    Calls Try.prog 31 #[.slice ao n cap] w fun e w' => e = .returned (.bool b) ∧ w' = w := by
  have hl := hr.1
  have HR := hide hr
  clear hr
  go_enter Try.func31, Try.ntmps31
  go_wp2
  go_loopw [7] (fun i wr => ∃ k : Nat, k ≤ n ∧ i = .int .i64 k ∧ Hid ((xs.take k).all coefB = true) ∧ wr = w) (fun i _ => n - (intOf i).toNat)
  case atStart => exact ⟨0, Nat.zero_le _, rfl, rfl, rfl⟩
  case round =>
    obtain ⟨k, hk, rfl, ha, rfl⟩ := hrel
    by_cases hlt : k < n
    · obtain ⟨bb, off, rfl, hc⟩ := (unhide HR).2 k hlt
      have hal := all_take10 (f := coefB) (xs := xs) (k := k) (by omega)
      have hno := all_noC (f := coefB) (xs := xs) (k := k) (by omega)
      generalize xs.getD k 0 = x at *
      cases hx : coefB x with
      | true =>
        have hA : (xs.take (k + 1)).all coefB = true := by rw [hal, unhide ha, hx]; rfl
        have HA := hide hA
        have HX : Hid (coefB x = true) := hx
        clear hA ha hal hno hx
        go_wp2_with fail
        refine (implCoefOk x true HX _).mono ?_
        rintro e w1 ⟨rfl, rfl⟩
        go_wp2
        go_roundw
        case rel => exact ⟨k + 1, by omega, by go_num, HA, trivial⟩
        case measure => simp [intOf]; omega
      | false =>
        have hb : b = false := by rw [← unhide HB, hno hx]
        have HX : Hid (coefB x = false) := hx
        subst hb
        clear ha hal hno hx
        go_wp2_with fail
        refine (implCoefOk x false HX _).mono ?_
        rintro e w1 ⟨rfl, rfl⟩
        go_wp2
        go_ret
        exact ⟨rfl, rfl⟩
    · obtain rfl : k = n := by omega
      have hb : b = true := by
        have h := unhide ha
        rw [← hl, List.take_length] at h
        rw [← unhide HB, h]
      subst hb
      go_wp2
      go_ret
      exact ⟨rfl, rfl⟩

theorem implBaseOk (n : Int) (t : Bool) (ht : Hid (baseB n = t)) (w : World) :
    Calls Try.prog 32 #[.int .i64 n] w fun e w' => e = .returned (.bool t) ∧ w' = w := by
  have HT : Hid (decide (0 ≤ n ∧ n ≤ 380) = t) := ht
  clear ht
  go_enter Try.func32, Try.ntmps32
  go_wp2_with fail
  refine (inRange7 n 0 380 t HT w).mono ?_
  rintro e w1 ⟨rfl, rfl⟩
  go_wp2
  go_ret
  exact ⟨rfl, rfl⟩

set_option maxHeartbeats 1600000 in
theorem implListBins (ao : Option Addr) (n cap : Nat) (xs : List Int) (base : Int) (w : World) (hr : Rd .i64 w ao n xs) (hn : n ≤ 1048576) (R : List (Int × Int)) (HRR : Hid (listG xs base = R)) :
    Calls Try.prog 9 #[.slice ao n cap, .int .i64 base] w fun e w' => ∃ bo cap', e = .returned (.slice bo R.length cap') ∧ w'.ownsRow w.heap.size 30 2 (.slice bo R.length cap') R.length (flat R) ∧ w.grownBy w' none := by
  have hl := hr.1
  have HR := hide hr
  clear hr
  obtain ⟨b1, HB1⟩ : ∃ b, Hid (xs.all coefB = b) := ⟨_, rfl⟩
  obtain ⟨b2, HB2⟩ : ∃ b, Hid (baseB base = b) := ⟨_, rfl⟩
  by_cases h4 : 4096 < n
  · have hd : decide ((4096 : Int) < (n : Int)) = true := decide_eq_true (by omega)
    have e : R = [] := by rw [← unhide HRR, listG, decide_eq_false (by omega)]; rfl
    subst e
    go_enter Try.func9, Try.ntmps9
    go_wp2
    go_ret
    exact ⟨none, 0, rfl, ⟨rfl, .inl ⟨rfl, rfl⟩⟩, World.grownBy.refl _ _⟩
  · have hd : decide ((4096 : Int) < (n : Int)) = false := decide_eq_false (by omega)
    have hdx : decide (xs.length ≤ 4096) = true := decide_eq_true (by omega)
    have HCO := hide (implCoefs10 ao n cap xs w (unhide HR) (by omega) b1 HB1)
    have HBO := hide (implBaseOk base b2 HB2 w)
    cases b1 with
    | false =>
      have e : R = [] := by rw [← unhide HRR, listG, unhide HB1, Bool.and_false]; rfl
      subst e
      go_enter Try.func9, Try.ntmps9
      go_wp2_with fail
      refine (unhide HCO).mono ?_
      rintro e w1 ⟨rfl, rfl⟩
      go_wp2
      go_ret
      exact ⟨none, 0, rfl, ⟨rfl, .inl ⟨rfl, rfl⟩⟩, World.grownBy.refl _ _⟩
    | true =>
      cases b2 with
      | false =>
        have e : R = [] := by rw [← unhide HRR, listG, unhide HB2, Bool.and_false]; rfl
        subst e
        go_enter Try.func9, Try.ntmps9
        go_wp2_with fail
        refine (unhide HCO).mono ?_
        rintro e w1 ⟨rfl, rfl⟩
        go_wp2_with fail
        refine (unhide HBO).mono ?_
        rintro e w1 ⟨rfl, rfl⟩
        go_wp2
        go_ret
        exact ⟨none, 0, rfl, ⟨rfl, .inl ⟨rfl, rfl⟩⟩, World.grownBy.refl _ _⟩
      | true =>
        have hb0 : 0 ≤ base ∧ base ≤ 380 := of_decide_eq_true (unhide HB2)
        obtain ⟨b, rfl⟩ := Int.eq_ofNat_of_zero_le hb0.1
        have hbb : b ≤ 380 := by omega
        have hRE : R = xs.flatMap (binsI b) := by rw [← unhide HRR, listG, hdx, unhide HB1, unhide HB2]; rfl
        have HRL : Hid (R.length ≤ 126976) := by
          have := bins_flat_len b xs (unhide HB1)
          unfold Hid; rw [hRE]; omega
        have HRE : Hid ([] ++ (xs.drop 0).flatMap (binsI b) = R) := by unfold Hid; rw [hRE]; simp
        have hT0 : Tb w (w.heap.size + 1) ((w.alloc (.cells #[] 30)).alloc (.cells #[.slice (some ⟨w.heap.size, 0, none⟩) 0 0] 27)) (.slice (some ⟨w.heap.size, 0, none⟩) 0 0) [] := by
          have hs : (w.alloc (.cells #[] 30)).heap.size = w.heap.size + 1 := by simp
          have hn1 := heap_alloc_new (w.alloc (.cells #[] 30)) (.cells #[.slice (some ⟨w.heap.size, 0, none⟩) 0 0] 27)
          rw [hs] at hn1
          have o0 : (w.alloc (.cells #[] 30)).ownsRow w.heap.size 30 2 (.slice (some ⟨w.heap.size, 0, none⟩) 0 0) 0 (flat []) := World.ownsRow_lit w #[] 0 (Nat.le_refl _) (by unfold maxLen; omega) rfl
          have hne : (Value.slice (some ⟨w.heap.size, 0, none⟩) 0 0).ownBlock ≠ some (w.heap.size + 1) := by intro e; have : w.heap.size = w.heap.size + 1 := Option.some.inj e; omega
          exact ⟨own_grown o0 (World.grownBy_alloc _ _ _), hn1, hne, grown_alloc (World.grownBy_alloc _ _ _) _, by omega⟩
        have HT0 := hide hT0
        have HRG := hide (fun W (g : w.grownBy W none) => (unhide HR).grown g)
        have HOK := hide (unhide HB1)
        clear hT0 hRE hdx HB1 HB2 HRR HR hb0
        go_enter Try.func9, Try.ntmps9
        go_wp2_with fail
        refine (unhide HCO).mono ?_
        rintro e w ⟨rfl, rfl⟩
        go_wp2_with fail
        refine (unhide HBO).mono ?_
        rintro e w ⟨rfl, rfl⟩
        clear HCO HBO
        go_wp2_with fail
        refine (implTellerOf (unhide HT0) b).mono ?_
        rintro e w2 ⟨bb, fb, rfl, h2⟩
        obtain ⟨pb, HPB⟩ : ∃ pb, Hid (w.heap.size + 1 = pb) := ⟨_, rfl⟩
        rw [unhide HPB] at h2 ⊢
        have H2 := hide h2
        clear h2 HT0
        go_wp2
        go_loopw [28] (fun iv wr => ∃ (k : Nat) (v' : Value) (Y : List (Int × Int)), k ≤ n ∧ iv = .int .i64 k ∧ Hid (Tl w pb bb fb b wr v' Y) ∧ Hid (Y ++ (xs.drop k).flatMap (binsI b) = R)) (fun iv _ => n - (intOf iv).toNat)
        case atStart => exact ⟨0, _, [], Nat.zero_le _, rfl, H2, HRE⟩
        case round =>
          clear H2 HRE
          obtain ⟨k, v', Y, hk, rfl, htk, hY⟩ := hrel
          by_cases hlt : k < n
          · obtain ⟨rb, off, rfl, hc⟩ := (unhide HRG wr (unhide htk).tb.grown).2 k hlt
            have hkl : k < xs.length := by omega
            have HX2 : Hid ((Y ++ binsI b (xs.getD k 0)) ++ (xs.drop (k + 1)).flatMap (binsI b) = R) := by
              have h1 := unhide hY
              rw [List.drop_eq_getElem_cons hkl, List.flatMap_cons, ← List.append_assoc] at h1
              have e : xs.getD k 0 = xs[k] := by simp [hkl]
              unfold Hid
              rw [e]; exact h1
            have hok : coefB (xs.getD k 0) = true := List.all_eq_true.1 (unhide HOK) _ (by simp [hkl])
            have hkI : (k : Int) < (n : Int) := by omega
            generalize xs.getD k 0 = x at *
            have HYL : Hid (Y.length ≤ 500000) := by
              have h1 := congrArg List.length (unhide hY)
              have h2 := unhide HRL
              rw [List.length_append] at h1
              unfold Hid; omega
            have HP := hide (implNumber10 (unhide htk) hbb x hok (unhide HYL))
            clear hok hY htk
            go_wp2_with fail
            refine (unhide HP).mono ?_
            rintro e w5 ⟨rfl, v5, h5⟩
            have H5 := hide h5
            clear h5 HP
            go_wp2
            go_roundw
            case rel => exact ⟨k + 1, v5, _, by omega, by go_num, H5, HX2⟩
            case measure => simp [intOf]; omega
          · obtain rfl : k = n := by omega
            have hX1 := unhide hY
            rw [← hl, List.drop_length, List.flatMap_nil, List.append_nil] at hX1
            subst hX1
            obtain ⟨so, sc, rfl⟩ := own_form (unhide htk).tb.own
            have c0 : wr.cell? ⟨pb, 0, none⟩ = some (.slice so Y.length sc) := by rw [cell_of_row _ pb 0 _ _ (0, 0) (unhide htk).tb.box]; rfl
            clear hY
            go_wp2
            go_ret
            exact ⟨_, _, rfl, (unhide htk).tb.own, (unhide htk).tb.grown⟩

theorem giveList : ImplList := fun ao n cap xs base w hr hn => implListBins ao n cap xs base w hr hn _ rfl

theorem binsOf_list (n base : Int) : listG [n] base = binsOfG n base := by
  unfold listG binsOfG
  have e : ([n] : List Int).all coefB = coefB n := by simp
  rw [e]
  have e2 : decide ([n].length ≤ 4096) = true := rfl
  rw [e2, Bool.true_and, Bool.and_comm]
  simp

theorem giveBinsOf : ImplBinsOf := by
  intro n base w
  obtain ⟨R, HR⟩ : ∃ R, Hid (binsOfG n base = R) := ⟨_, rfl⟩
  rw [unhide HR]
  have HRd : Hid (Rd .i64 (w.alloc (.cells #[.int .i64 n] 3)) (some ⟨w.heap.size, 0, none⟩) 1 [n]) := by
    refine ⟨rfl, fun k hk => ?_⟩
    obtain rfl : k = 0 := by omega
    exact ⟨_, _, rfl, by rw [cell_of_row _ w.heap.size _ _ _ (0, 0) (heap_alloc_new w _)]; rfl⟩
  have HL := hide (implListBins (some ⟨w.heap.size, 0, none⟩) 1 1 [n] base _ (unhide HRd) (by omega) R (by unfold Hid; rw [binsOf_list]; exact unhide HR))
  have HG : Hid (w.grownBy (w.alloc (.cells #[.int .i64 n] 3)) none) := World.grownBy_alloc _ _ _
  go_enter Try.func11, Try.ntmps11
  go_wp2_with fail
  refine (unhide HL).mono ?_
  rintro e w1 ⟨bo, cap', rfl, h1, h2⟩
  have HF : Hid (w1.ownsRow w.heap.size 30 2 (.slice bo R.length cap') R.length (flat R) ∧ w.grownBy w1 none) := ⟨own_base h1 (unhide HG).size, grown_trans (unhide HG) h2⟩
  clear h1 h2
  go_wp2
  go_ret
  exact ⟨_, _, rfl, unhide HF⟩

end Go.Proofs.Ytekidfkahpaokaa
