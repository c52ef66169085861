/-
  A number told in the program: its sign, its class, and what is left.
-/
import Derived.Test.YtekidfkahpaokaaTellImpl
namespace Go.Proofs.Ytekidfkahpaokaa
open Go.RowKit

theorem implSign10 {B w : World} {pb bb fb b : Nat} {v : Value} {X : List (Int × Int)} (ht : Tl B pb bb fb b w v X) (hbb : b ≤ 380) (n : Int) (sg : Nat) (HS : Hid ((if n < 0 then 1 else 0) = sg)) (hb : X.length ≤ 1000000) :
    Calls Try.prog 55 #[.func (.func 54) #[] #[.pointer (some ⟨fb, 0, none⟩), .pointer (some ⟨bb, 0, none⟩)], .int .i64 n] w fun e w' => e = .returned (.tuple #[]) ∧ ∃ v', Tl B pb bb fb b w' v' (X ++ [((b : Int) + 1, (sg : Int))]) := by
  by_cases h : n < 0
  · have hd : decide (n < 0) = true := decide_eq_true h
    have e : sg = 1 := by have := unhide HS; rw [if_pos h] at this; exact this.symm
    subst e
    have HP := hide (implTell10 ht hbb 1 1 (by omega) hb)
    clear ht HS
    go_enter Try.func55, Try.ntmps55
    go_wp2_with fail
    refine (unhide HP).mono ?_
    rintro e w1 ⟨rfl, v', h1⟩
    have H1 := hide h1
    clear h1 HP
    go_wp2
    exact bodyPost_end (v := .tuple #[]) (by simp [results, Try.results55, go_sem]) rfl ⟨rfl, _, unhide H1⟩
  · have hd : decide (n < 0) = false := decide_eq_false h
    have e : sg = 0 := by have := unhide HS; rw [if_neg h] at this; exact this.symm
    subst e
    have HP := hide (implTell10 ht hbb 1 0 (by omega) hb)
    clear ht HS
    go_enter Try.func55, Try.ntmps55
    go_wp2_with fail
    refine (unhide HP).mono ?_
    rintro e w1 ⟨rfl, v', h1⟩
    have H1 := hide h1
    clear h1 HP
    go_wp2
    exact bodyPost_end (v := .tuple #[]) (by simp [results, Try.results55, go_sem]) rfl ⟨rfl, _, unhide H1⟩

theorem implRest10 {B w : World} {pb bb fb b : Nat} {v : Value} {X : List (Int × Int)} (ht : Tl B pb bb fb b w v X) (hbb : b ≤ 380) (k a : Nat) (hk1 : 1 ≤ k) (hk2 : k ≤ 15) (ha : a ≤ 32767) (L : List (Int × Int)) (HL : Hid (X ++ (lowL b a (k - 1)).map binI = L)) (HLN : Hid (L.length ≤ 1000000)) :
    Calls Try.prog 58 #[.func (.func 54) #[] #[.pointer (some ⟨fb, 0, none⟩), .pointer (some ⟨bb, 0, none⟩)], .int .i64 k, .int .i64 a] w fun e w' => e = .returned (.tuple #[]) ∧ ∃ v', Tl B pb bb fb b w' v' L := by
  have HT := hide ht
  have e4 := i64_in ((k : Int) - 2) (by omega)
  clear ht
  go_enter Try.func58, Try.ntmps58
  go_wp2
  go_loopw [6] (fun iv wr => ∃ (j : Nat) (v' : Value) (Y : List (Int × Int)), j + 1 ≤ k ∧ iv = .int .i64 ((j : Int) - 1) ∧ Hid (Tl B pb bb fb b wr v' Y) ∧ Hid (Y ++ (lowL b a j).map binI = L)) (fun iv _ => (intOf iv + 1).toNat)
  case atStart => exact ⟨k - 1, v, X, by omega, by congr 1; omega, HT, HL⟩
  case round =>
    clear HT HL e4
    obtain ⟨j, v', Y, hj, rfl, htk, hY⟩ := hrel
    have HYL : Hid (Y.length ≤ 1000000) := by
      have h1 := congrArg List.length (unhide hY)
      have h2 := unhide HLN
      rw [List.length_append] at h1
      unfold Hid; omega
    cases j with
    | zero =>
      have hd4 : decide ((0 : Int) ≤ ((0 : Nat) : Int) - 1) = false := by decide
      have hX1 := unhide hY
      rw [lowL, List.map_nil, List.append_nil] at hX1
      subst hX1
      clear hY
      go_wp2
      exact bodyPost_end (v := .tuple #[]) (by simp [results, Try.results58, go_sem]) rfl ⟨rfl, _, unhide htk⟩
    | succ j =>
      have ej : ((j + 1 : Nat) : Int) - 1 = (j : Int) := by omega
      rw [ej]
      have hd4 : decide ((0 : Int) ≤ (j : Int)) = true := decide_eq_true (by omega)
      have e5 := i64_in ((j : Int) - 1) (by omega)
      have HX2 : Hid ((Y ++ [((b : Int) + 18, ((a / 2 ^ j % 2 : Nat) : Int))]) ++ (lowL b a j).map binI = L) := by
        have h1 := unhide hY
        rw [lowL, List.map_cons, app_cons] at h1
        have e : ((b + 18 : Nat) : Int) = (b : Int) + 18 := by omega
        unfold binI at h1
        dsimp only at h1
        rw [e] at h1
        exact h1
      have eb := and1_shr a j ha
      obtain ⟨bt, HBT⟩ : ∃ bt, Hid (a / 2 ^ j % 2 = bt) := ⟨_, rfl⟩
      rw [unhide HBT] at HX2 eb
      have hdq : 0 ≤ (a : Int) / 2 ^ j ∧ (a : Int) / 2 ^ j < 65536 := shr_small (a : Int) (by omega) (by omega) j
      have e6 := i64_in ((a : Int) / 2 ^ j) (by omega)
      have HP := hide (implTell10 (unhide htk) hbb 18 (bt : Int) (by omega) (unhide HYL))
      clear hY htk
      go_wp2_with fail
      refine (unhide HP).mono ?_
      rintro e w1 ⟨rfl, v1, h1⟩
      have H1 := hide h1
      clear h1 HP
      go_wp2
      go_roundw
      case rel => exact ⟨j, v1, _, by omega, by go_num, H1, HX2⟩
      case measure => simp [intOf]

theorem implClass10 {B w : World} {pb bb fb b : Nat} {v : Value} {X : List (Int × Int)} (ht : Tl B pb bb fb b w v X) (hbb : b ≤ 380) (k : Nat) (hk1 : 1 ≤ k) (hk2 : k ≤ 15) (L : List (Int × Int)) (HL : Hid (X ++ (upL b (k - 1) 1).map binI = L)) (HLN : Hid (L.length ≤ 1000000)) :
    Calls Try.prog 57 #[.func (.func 54) #[] #[.pointer (some ⟨fb, 0, none⟩), .pointer (some ⟨bb, 0, none⟩)], .int .i64 k] w fun e w' => e = .returned (.tuple #[]) ∧ ∃ v', Tl B pb bb fb b w' v' L := by
  have HT := hide ht
  clear ht
  go_enter Try.func57, Try.ntmps57
  go_wp2
  go_loopw [4] (fun iv wr => ∃ (i : Nat) (v' : Value) (Y : List (Int × Int)), 1 ≤ i ∧ i ≤ k ∧ iv = .int .i64 i ∧ Hid (Tl B pb bb fb b wr v' Y) ∧ Hid (Y ++ (upL b (k - i) i).map binI = L)) (fun iv _ => k - (intOf iv).toNat)
  case atStart => exact ⟨1, v, X, Nat.le_refl _, hk1, rfl, HT, HL⟩
  case round =>
    clear HT HL
    obtain ⟨i, v', Y, hi1, hik, rfl, htk, hY⟩ := hrel
    have HYL : Hid (Y.length ≤ 1000000) := by
      have h1 := congrArg List.length (unhide hY)
      have h2 := unhide HLN
      rw [List.length_append] at h1
      unfold Hid; omega
    have e1 := i64_in (2 + (i : Int)) (by omega)
    have e2 := i64_in (2 + (i : Int) - 1) (by omega)
    have e3 := i64_in ((i : Int) + 1) (by omega)
    have ee : (b : Int) + (2 + (i : Int) - 1) = (b : Int) + 1 + (i : Int) := by omega
    by_cases hlt : i < k
    · have hd2 : decide ((i : Int) < (k : Int)) = true := decide_eq_true (by omega)
      have HX2 : Hid ((Y ++ [((b : Int) + (2 + (i : Int) - 1), 1)]) ++ (upL b (k - (i + 1)) (i + 1)).map binI = L) := by
        have h1 := unhide hY
        rw [show k - i = (k - (i + 1)) + 1 by omega, upL, List.map_cons, app_cons] at h1
        have e : ((b + 1 + i : Nat) : Int) = (b : Int) + 1 + (i : Int) := by omega
        unfold binI at h1
        dsimp only at h1
        rw [e] at h1
        unfold Hid
        rw [ee]
        exact h1
      have HP := hide (implTell10 (unhide htk) hbb (2 + (i : Int) - 1) 1 (by omega) (unhide HYL))
      clear hY htk ee
      go_wp2_with fail
      refine (unhide HP).mono ?_
      rintro e w1 ⟨rfl, v1, h1⟩
      have H1 := hide h1
      clear h1 HP
      go_wp2
      go_roundw
      case rel => exact ⟨i + 1, v1, _, by omega, by omega, by go_num, H1, HX2⟩
      case measure => simp [intOf]; omega
    · obtain rfl : i = k := by omega
      have hd2 : decide ((i : Int) < (i : Int)) = false := decide_eq_false (by omega)
      have hX1 := unhide hY
      rw [Nat.sub_self, upL] at hX1
      by_cases h15 : i < 15
      · rw [if_pos h15] at hX1
        have hd3 : decide ((i : Int) < 15) = true := decide_eq_true (by omega)
        have HX2 : Hid (Y ++ [((b : Int) + (2 + (i : Int) - 1), 0)] = L) := by
          rw [List.map_cons, List.map_nil] at hX1
          have e : ((b + 1 + i : Nat) : Int) = (b : Int) + 1 + (i : Int) := by omega
          unfold binI at hX1
          dsimp only at hX1
          rw [e] at hX1
          unfold Hid
          rw [ee]
          exact hX1
        have HP := hide (implTell10 (unhide htk) hbb (2 + (i : Int) - 1) 0 (by omega) (unhide HYL))
        rw [unhide HX2] at HP
        clear hY htk ee hX1 HX2
        go_wp2_with fail
        refine (unhide HP).mono ?_
        rintro e w1 ⟨rfl, v1, h1⟩
        have H1 := hide h1
        clear h1 HP
        go_wp2
        exact bodyPost_end (v := .tuple #[]) (by simp [results, Try.results57, go_sem]) rfl ⟨rfl, _, unhide H1⟩
      · rw [if_neg h15, List.map_nil, List.append_nil] at hX1
        have hd3 : decide ((i : Int) < 15) = false := decide_eq_false (by omega)
        subst hX1
        clear hY
        go_wp2
        exact bodyPost_end (v := .tuple #[]) (by simp [results, Try.results57, go_sem]) rfl ⟨rfl, _, unhide htk⟩

theorem implNumber10 {B w : World} {pb bb fb b : Nat} {v : Value} {X : List (Int × Int)} (ht : Tl B pb bb fb b w v X) (hbb : b ≤ 380) (n : Int) (hn : coefB n = true) (hb : X.length ≤ 500000) :
    Calls Try.prog 35 #[.func (.func 54) #[] #[.pointer (some ⟨fb, 0, none⟩), .pointer (some ⟨bb, 0, none⟩)], .int .i64 n] w fun e w' => e = .returned (.tuple #[]) ∧ ∃ v', Tl B pb bb fb b w' v' (X ++ binsI b n) := by
  have hLl := binsI_len (base := b) hn
  have hnb : -32767 ≤ n ∧ n ≤ 32767 := of_decide_eq_true hn
  by_cases h0 : n = 0
  · subst h0
    have e : binsI b 0 = [((b : Int) + 0, 1)] := by rw [binsI, numL, if_pos rfl, Int.add_zero]; rfl
    rw [e]
    have HP := hide (implTell10 ht hbb 0 1 (by omega) (by omega))
    clear ht hn hLl e
    go_enter Try.func35, Try.ntmps35
    go_wp2_with fail
    refine (unhide HP).mono ?_
    rintro e w1 ⟨rfl, v', h1⟩
    have H1 := hide h1
    clear h1 HP
    go_wp2
    exact bodyPost_ret (v := .tuple #[]) (by simp [results, Try.results35, go_sem]) rfl ⟨rfl, _, unhide H1⟩
  · have hc1 : 0 < cls n.natAbs := cls_pos.2 (by omega)
    have hc2 := cls_le (coef_nat hn)
    have HCL : Hid (classI n = (cls n.natAbs : Int)) := by unfold Hid classI; rw [hn]; rfl
    obtain ⟨k, hk⟩ : ∃ k, cls n.natAbs = k := ⟨_, rfl⟩
    rw [hk] at HCL hc1 hc2
    obtain ⟨a, ha⟩ : ∃ a, n.natAbs = a := ⟨_, rfl⟩
    obtain ⟨sg, HSG⟩ : ∃ sg : Nat, Hid ((if n < 0 then 1 else 0) = sg) := ⟨_, rfl⟩
    have hL : X ++ binsI b n = X ++ [((b : Int) + 0, 0)] ++ [((b : Int) + 1, (sg : Int))] ++ (upL b (k - 1) 1).map binI ++ (lowL b a (k - 1)).map binI := by
      rw [binsI, numL, if_neg h0, hk, unhide HSG, ha, absL, List.map_cons, List.map_cons, List.map_append]
      have e : ((b + 1 : Nat) : Int) = (b : Int) + 1 := by omega
      unfold binI
      dsimp only
      rw [e, Int.add_zero]
      simp
    obtain ⟨L, HL⟩ : ∃ L, Hid (X ++ binsI b n = L) := ⟨_, rfl⟩
    have HLN : Hid (L.length ≤ 1000000) := by unfold Hid; rw [← unhide HL, List.length_append]; omega
    rw [unhide HL] at hL ⊢
    have HLL := hide hL.symm
    obtain ⟨L1, HL1⟩ : ∃ L1 : List (Int × Int), Hid (X ++ [((b : Int) + 0, 0)] = L1) := ⟨_, hide rfl⟩
    obtain ⟨L2, HL2⟩ : ∃ L2 : List (Int × Int), Hid (L1 ++ [((b : Int) + 1, (sg : Int))] = L2) := ⟨_, hide rfl⟩
    obtain ⟨L3, HL3⟩ : ∃ L3 : List (Int × Int), Hid (L2 ++ (upL b (k - 1) 1).map binI = L3) := ⟨_, hide rfl⟩
    rw [unhide HL1, unhide HL2, unhide HL3] at HLL
    have hlen : L1.length ≤ 1000000 ∧ L2.length ≤ 1000000 ∧ L3.length ≤ 1000000 := by
      have h1 := congrArg List.length (unhide HLL)
      have h2 := congrArg List.length (unhide HL3)
      have h3 := congrArg List.length (unhide HL2)
      rw [List.length_append] at h1 h2 h3
      have := unhide HLN
      omega
    have hmx : max n (-n) = (a : Int) := by omega
    have hneg := i64_in (-n) (by omega)
    have hne : (n == 0) = false := by simp [h0]
    have HT := hide ht
    have HN := hide hlen
    have HB := hide hb
    clear ht hL hlen hLl hk hn hb HL
    go_enter Try.func35, Try.ntmps35
    go_wp2_with fail
    refine (implTell10 (unhide HT) hbb 0 0 (by omega) (by have := unhide HB; omega)).mono ?_
    rintro e w1 ⟨rfl, v1, h1⟩
    rw [unhide HL1] at h1
    have H1 := hide h1
    clear h1 HT HL1
    go_wp2_with fail
    refine (implSign10 (unhide H1) hbb n sg HSG (unhide HN).1).mono ?_
    rintro e w2 ⟨rfl, v2, h2⟩
    rw [unhide HL2] at h2
    have H2 := hide h2
    clear h2 H1 HL2
    go_wp2_with fail
    refine (implClass7 n k HCL w2).mono ?_
    rintro e w3 ⟨rfl, rfl⟩
    go_wp2_with fail
    refine (implClass10 (unhide H2) hbb k hc1 hc2 L3 HL3 (unhide HN).2.2).mono ?_
    rintro e w4 ⟨rfl, v4, h4⟩
    have H4 := hide h4
    clear h4 H2
    go_wp2_with fail
    refine (implRest10 (unhide H4) hbb k a hc1 hc2 (by omega) L HLL HLN).mono ?_
    rintro e w5 ⟨rfl, v5, h5⟩
    have H5 := hide h5
    clear h5 H4
    go_wp2
    exact bodyPost_end (v := .tuple #[]) (by simp [results, Try.results35, go_sem]) rfl ⟨rfl, _, unhide H5⟩

end Go.Proofs.Ytekidfkahpaokaa
