/-
  BinsOf and ListBins, in the specification.
-/
import Derived.Test.YtekidfkahpaokaaNumSpec
namespace Go.Proofs.Ytekidfkahpaokaa
open Go.RowKit

theorem rdF_cells {w : World} {b off m : Nat} {I : List (Int × Int)} (h : RdF w (some ⟨b, off, none⟩) m I) : ∀ j u, (flat I)[j]? = some u → w.cell? ((⟨b, off, none⟩ : Addr).add j) = some u := by
  intro j u hu
  have hl := h.1
  have hj : j < I.length * 2 := by rw [← flat_len]; exact (List.getElem?_eq_some_iff.1 hu).1
  have hi : j / 2 < I.length := by omega
  obtain ⟨b', off', e, c0, c1⟩ := h.2 (j / 2) (by omega)
  simp only [Option.some.injEq, Addr.mk.injEq, and_true] at e
  obtain ⟨rfl, rfl⟩ := e
  obtain ⟨a0, a1⟩ := flat_get I (j / 2) hi
  rw [Addr.add_lit]
  have h3 : j = j / 2 * 2 ∨ j = j / 2 * 2 + 1 := by omega
  rcases h3 with h3 | h3
  · rw [h3, a0] at hu
    rw [h3, c0, hu]
  · rw [h3, a1] at hu
    rw [h3, ← Nat.add_assoc, c1, hu]
theorem flat_one (I : List (Int × Int)) : ∀ u ∈ flat I, u.oneCell' = true := by
  intro u hu
  unfold flat at hu
  obtain ⟨p, _, hu⟩ := List.mem_flatMap.1 hu
  simp at hu
  rcases hu with rfl | rfl <;> rfl

theorem append_bins {w : World} {ops : Array Oper} {rest : List Oper} {o : Oper} {a : Act} {Q : Exit → Act → World → Prop} (hgd : o.guard = none) (s x : Operand)
    (ho : o.op = .call { callee := .builtin .append, args := #[s, x], argTypes := #[27, 27] })
    (B : Nat) (v : Value) (X : List (Int × Int)) (hs : a.eval s = v) (hown : w.ownsRow B 30 2 v X.length (flat X)) (ad : Addr) (m c : Nat) (Y : List (Int × Int)) (hx : a.eval x = .slice (some ad) m c) (hr : RdF w (some ad) m Y) (hm : 0 < m)
    (hb : X.length + m ≤ 1000000) (hB : B ≤ w.heap.size) (R : List (Int × Int)) (hR : X ++ Y = R)
    (h : ∀ v' w', w'.ownsRow B 30 2 v' R.length (flat R) → w.grownBy w' v.ownBlock → wpList Try.prog ops Q rest (a.put o.dst v') w') :
    wpList Try.prog ops Q (o :: rest) a w := by
  subst hR
  obtain ⟨i0, hi, hz0, hz1, hz2⟩ := info_parts info_bin
  have hl := hr.1
  obtain ⟨b, off, e, _, _⟩ := hr.2 0 hm
  obtain rfl : ad = ⟨b, off, none⟩ := Option.some.inj e
  refine wpList_append_own_at _ hgd s x 27 ho B 30 i0 _ 2 16 Try.underlying27 hi hz0 hz1 hz2 rfl (by decide) v X.length _ hs hown ⟨b, off, none⟩ m c (flat Y) hx (by rw [flat_len, hl]) (rdF_cells hr) (flat_one Y) (by unfold maxLen; omega) (by omega) hB ?_
  intro v' w' h1 h2 _ _
  refine h v' w' ?_ h2
  rw [flat_append, List.length_append, hl]
  exact h1

set_option maxHeartbeats 800000 in
theorem specBinsOf (n base : Int) (L : List (Int × Int)) (HL : Hid (binsOfG n base = L)) (w : World) :
    Calls Try.prog 15 #[.int .i64 n, .int .i64 base] w fun e w' => ∃ bo cap', e = .returned (.slice bo L.length cap') ∧ w'.ownsRow w.heap.size 30 2 (.slice bo L.length cap') L.length (flat L) ∧ w.grownBy w' none := by
  obtain ⟨k, HK⟩ : ∃ k, Hid (classI n = k) := ⟨_, rfl⟩
  have HNIL : Hid (L = [] → (w.alloc (.cells #[] 30)).ownsRow w.heap.size 30 2 (.slice (some ⟨w.heap.size, 0, none⟩) L.length 0) L.length (flat L) ∧ w.grownBy (w.alloc (.cells #[] 30)) none) := fun e => by
    subst e
    exact ⟨World.ownsRow_lit w #[] 0 (Nat.le_refl _) (by unfold maxLen; omega) rfl, World.grownBy_alloc _ _ _⟩
  cases hn : coefB n with
  | false =>
    have hk : k = -1 := by rw [← unhide HK, classI, hn]; rfl
    subst hk
    have e : L = [] := by rw [← unhide HL, binsOfG, hn]; rfl
    have HF := hide (unhide HNIL e)
    subst e
    clear HNIL HL
    go_enter Try.func15, Try.ntmps15
    go_wp2_with fail
    refine (specClassOf n (-1) HK w).mono ?_
    rintro e w1 ⟨rfl, rfl⟩
    go_wp2
    go_ret
    exact ⟨_, _, rfl, unhide HF⟩
  | true =>
    have hk : k = (cls n.natAbs : Int) := by rw [← unhide HK, classI, hn]; rfl
    have hk0 : decide (k < 0) = false := decide_eq_false (by omega)
    obtain ⟨b, HB⟩ : ∃ b, Hid (decide (0 ≤ base ∧ base ≤ 380) = b) := ⟨_, rfl⟩
    clear hk
    cases b with
    | false =>
      have e : L = [] := by rw [← unhide HL, binsOfG, hn, baseB, unhide HB]; rfl
      have HF := hide (unhide HNIL e)
      subst e
      clear HNIL HL
      go_enter Try.func15, Try.ntmps15
      go_wp2_with fail
      refine (specClassOf n k HK w).mono ?_
      rintro e w1 ⟨rfl, rfl⟩
      go_wp2_with fail
      refine (between base 0 380 false HB w1).mono ?_
      rintro e w2 ⟨rfl, rfl⟩
      go_wp2
      go_ret
      exact ⟨_, _, rfl, unhide HF⟩
    | true =>
      have hb := of_decide_eq_true (unhide HB)
      obtain ⟨bs, rfl⟩ := Int.eq_ofNat_of_zero_le hb.1
      have HLL : Hid (binsI bs n = L) := by
        have h1 := unhide HL
        rw [binsOfG, hn, baseB, unhide HB] at h1
        exact h1
      clear HNIL HL
      go_enter Try.func15, Try.ntmps15
      go_wp2_with fail
      refine (specClassOf n k HK w).mono ?_
      rintro e w1 ⟨rfl, rfl⟩
      go_wp2_with fail
      refine (between (bs : Int) 0 380 true HB w1).mono ?_
      rintro e w2 ⟨rfl, rfl⟩
      go_wp2_with fail
      refine (specBins n bs hn (by omega) L HLL w2).mono ?_
      rintro e w3 ⟨bo, cap', rfl, o3, g3⟩
      have HO := hide o3
      have HG := hide g3
      clear o3 g3
      go_wp2
      go_ret
      exact ⟨_, _, rfl, unhide HO, unhide HG⟩

theorem flat_take (base : Nat) (xs : List Int) (i : Nat) (h : i < xs.length) : (xs.take (i + 1)).flatMap (binsI base) = (xs.take i).flatMap (binsI base) ++ binsI base (xs.getD i 0) := by
  rw [List.take_succ_eq_append_getElem h, List.flatMap_append]
  simp [h]
theorem binsI_pos (base : Nat) (n : Int) : 0 < (binsI base n).length := by
  unfold binsI numL
  rw [List.length_map]
  split <;> simp

set_option maxRecDepth 20000 in
set_option maxHeartbeats 1600000 in
theorem specList (ao : Option Addr) (n cap : Nat) (xs : List Int) (base : Int) (w : World) (hr : Rd .i64 w ao n xs) (L : List (Int × Int)) (HL : Hid (listG xs base = L)) :
    Calls Try.prog 10 #[.slice ao n cap, .int .i64 base] w fun e w' => ∃ bo cap', e = .returned (.slice bo L.length cap') ∧ w'.ownsRow w.heap.size 30 2 (.slice bo L.length cap') L.length (flat L) ∧ w.grownBy w' none := by
  have hl := hr.1
  have HR := hide hr
  clear hr
  have HNIL : Hid (L = [] → ∀ wz : World, w.grownBy wz none → (wz.alloc (.cells #[] 30)).ownsRow w.heap.size 30 2 (.slice (some ⟨wz.heap.size, 0, none⟩) L.length 0) L.length (flat L) ∧ w.grownBy (wz.alloc (.cells #[] 30)) none) := fun e wz g => by
    subst e
    exact ⟨own_base (World.ownsRow_lit wz #[] 0 (Nat.le_refl _) (by unfold maxLen; omega) rfl) g.size, grown_alloc g _⟩
  have HLE := hide hl
  by_cases hn : n ≤ 4096
  · have hd : decide ((4096 : Int) < (n : Int)) = false := decide_eq_false (by omega)
    obtain ⟨b, HB⟩ : ∃ b, Hid (decide (0 ≤ base ∧ base ≤ 380) = b) := ⟨_, rfl⟩
    have hdn : decide (xs.length ≤ 4096) = true := decide_eq_true (by omega)
    cases b with
    | false =>
      have e : L = [] := by rw [← unhide HL, listG, baseB, unhide HB, Bool.and_false, Bool.false_and]; rfl
      have HF := hide (unhide HNIL e w (World.grownBy.refl _ _))
      subst e
      clear HNIL HL hl hdn
      go_enter Try.func10, Try.ntmps10
      go_wp2_with fail
      refine (between base 0 380 false HB _).mono ?_
      rintro e w2 ⟨rfl, rfl⟩
      go_wp2
      go_ret
      exact ⟨_, _, rfl, unhide HF⟩
    | true =>
      have hb := of_decide_eq_true (unhide HB)
      obtain ⟨bs, rfl⟩ := Int.eq_ofNat_of_zero_le hb.1
      have HLG : Hid (L = if xs.all coefB then xs.flatMap (binsI bs) else []) := by
        unfold Hid
        rw [← unhide HL, listG, baseB, unhide HB, hdn]; rfl
      have HO0 : Hid ((w.alloc (.cells #[] 30)).ownsRow w.heap.size 30 2 (.slice (some ⟨w.heap.size, 0, none⟩) 0 0) 0 (flat [])) := World.ownsRow_lit w #[] 0 (Nat.le_refl _) (by unfold maxLen; omega) rfl
      have HG0 : Hid (w.grownBy (w.alloc (.cells #[] 30)) none) := World.grownBy_alloc _ _ _
      clear HL hl hdn
      go_enter Try.func10, Try.ntmps10
      go_wp2_with fail
      refine (between (bs : Int) 0 380 true HB _).mono ?_
      rintro e w2 ⟨rfl, rfl⟩
      go_wp2
      go_loopw [5, 6] (fun v iv wr => ∃ (i : Nat) (X : List (Int × Int)), i ≤ n ∧ iv = .int .i64 i ∧ Hid ((xs.take i).all coefB = true) ∧ Hid ((xs.take i).flatMap (binsI bs) = X) ∧ Hid (wr.ownsRow w.heap.size 30 2 v X.length (flat X)) ∧ Hid (w.grownBy wr none)) (fun _ iv _ => n - (intOf iv).toNat)
      case atStart => exact ⟨0, [], Nat.zero_le _, rfl, rfl, rfl, HO0, HG0⟩
      case round =>
        clear HO0 HG0
        obtain ⟨i, X, hi, rfl, ha, hX, ho, hg⟩ := hrel
        obtain ⟨so, sc, rfl⟩ := own_form (unhide ho)
        by_cases hlt : i < n
        · obtain ⟨fb, fo, rfl, c0⟩ := ((unhide HR).grown (unhide hg)).2 i hlt
          have his : i < xs.length := by rw [unhide HLE]; exact hlt
          have hal := all_takeC (f := coefB) (xs := xs) (k := i) his
          have hno := all_noC (f := coefB) (xs := xs) (k := i) his
          have hft := flat_take bs xs i his
          have hXL := bins_flat_len bs (xs.take i) (unhide ha)
          rw [unhide hX, List.length_take] at hXL
          have HXL : Hid (X.length ≤ 126976) := by unfold Hid; omega
          clear hXL
          have hiI : (i : Int) < (n : Int) := by omega
          generalize xs.getD i 0 = x at *
          obtain ⟨k, HK⟩ : ∃ k, Hid (classI x = k) := ⟨_, rfl⟩
          cases hx : coefB x with
          | false =>
            have hk : k = -1 := by rw [← unhide HK, classI, hx]; rfl
            subst hk
            have e : L = [] := by rw [unhide HLG, hno hx]; rfl
            have HF := hide (unhide HNIL e wr (unhide hg))
            subst e
            clear HNIL HLG hal hno hft ha hX ho
            go_wp2_with fail
            refine (specClassOf x (-1) HK wr).mono ?_
            rintro e w1 ⟨rfl, rfl⟩
            go_wp2
            go_ret
            exact ⟨_, _, rfl, unhide HF⟩
          | true =>
            have hk : k = (cls x.natAbs : Int) := by rw [← unhide HK, classI, hx]; rfl
            have hk0 : decide (k < 0) = false := decide_eq_false (by omega)
            clear hk
            have HA : Hid ((xs.take (i + 1)).all coefB = true) := by unfold Hid; rw [hal, unhide ha, hx]; rfl
            obtain ⟨Y, HY⟩ : ∃ Y, Hid (binsI bs x = Y) := ⟨_, rfl⟩
            have HYL : Hid (Y.length ≤ 31 ∧ 0 < Y.length) := by rw [← unhide HY]; exact ⟨binsI_len hx, binsI_pos bs x⟩
            obtain ⟨R, HRR⟩ : ∃ R, Hid (X ++ Y = R) := ⟨_, rfl⟩
            have HXR : Hid ((xs.take (i + 1)).flatMap (binsI bs) = R) := by unfold Hid; rw [hft, unhide hX, unhide HY, unhide HRR]
            clear hal hno hft ha hX HNIL
            go_wp2_with fail
            refine (specClassOf x k HK wr).mono ?_
            rintro e w1 ⟨rfl, rfl⟩
            go_wp2_with fail
            refine (specBins x bs hx (by omega) Y HY w1).mono ?_
            rintro e w3 ⟨bo, cap', rfl, o3, g3⟩
            obtain ⟨g, rfl, _, _⟩ := own_at o3 (unhide HYL).2
            have HRD := hide (own_rdF o3)
            have HO3 := hide (own_grown (unhide ho) g3)
            have HG3 := hide (grown_trans (unhide hg) g3)
            have HB3 : Hid (w.heap.size ≤ w3.heap.size) := (unhide HG3).size
            have HBX : Hid (X.length + Y.length ≤ 1000000) := by have h1 := unhide HXL; have h2 := (unhide HYL).1; unfold Hid; omega
            clear o3 g3 ho hg c0
            go_wp2_with (at_builtin; refine append_bins rfl _ _ rfl w.heap.size (.slice so X.length sc) X rfl (unhide HO3) _ Y.length cap' Y rfl (unhide HRD) (unhide HYL).2 (unhide HBX) (unhide HB3) R (unhide HRR) ?_)
            intro v7 w7 o7 g7
            obtain ⟨so7, sc7, rfl⟩ := own_form o7
            have HO7 := hide o7
            have HG7 : Hid (w.grownBy w7 none) := grown_new (unhide HG3) g7 (fun g e => ((unhide HO3).lt g e).1)
            clear o7 g7 HO3 HG3 HRD HB3
            go_wp2
            go_roundw
            case rel => exact ⟨i + 1, R, by omega, by go_num, HA, HXR, HO7, HG7⟩
            case measure => simp [intOf]; omega
        · obtain rfl : i = n := by omega
          have hall := unhide ha
          have hXX := unhide hX
          rw [← unhide HLE, List.take_length] at hall hXX
          have e : X = L := by rw [unhide HLG, hall, ← hXX]; rfl
          subst e
          clear hall hXX ha hX HNIL HLG
          go_wp2
          go_ret
          exact ⟨_, _, rfl, unhide ho, unhide hg⟩
  · have hd : decide ((4096 : Int) < (n : Int)) = true := decide_eq_true (by omega)
    have hdn : decide (xs.length ≤ 4096) = false := decide_eq_false (by omega)
    have e : L = [] := by rw [← unhide HL, listG, hdn, Bool.false_and, Bool.false_and]; rfl
    have HF := hide (unhide HNIL e w (World.grownBy.refl _ _))
    subst e
    clear HNIL HL hl hdn
    go_enter Try.func10, Try.ntmps10
    go_wp2
    go_ret
    exact ⟨_, _, rfl, unhide HF⟩

end Go.Proofs.Ytekidfkahpaokaa
