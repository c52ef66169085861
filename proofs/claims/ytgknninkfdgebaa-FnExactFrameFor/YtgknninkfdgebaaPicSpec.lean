/-
  PictureOk in the specification (written by gen_picok.py).
-/
import Derived.Test.YtgknninkfdgebaaPicRows
import Derived.Test.YtgknninkfdgebaaPicPure
import Derived.Test.YtgknninkfdgebaaBetween
import Derived.Test.YtgknninkfdgebaaHeldTail
import Derived.Test.YtgknninkfdgebaaHeldLast
import Derived.Test.YtgknninkfdgebaaQuietLast
import Derived.Deep.RegionHeld3
namespace Go.Proofs.Ytgknninkfdgebaa
open Go.RowKit

theorem grown_at7 {a b : World} {g : Nat} {o : Obj} {row : Option Nat} (h : a.grownBy b row) (hg : a.heap[g]? = some o) (hne : row ≠ some g) : b.heap[g]? = some o :=
  (h.block g (Array.getElem?_eq_some_iff.1 hg).1 (Ne.symm hne)).trans hg
theorem rd2_at {w : World} {xo : Option Addr} {n xc : Nat} {X : List (List Int)} (h : Rd2 w (.slice xo n xc) X) {k : Nat} (hk : k < X.length) : ∃ b off u, xo = some ⟨b, off, none⟩ ∧ w.cell? ⟨b, off + k, none⟩ = some u ∧ RdI .i64 w u X[k] := by
  obtain ⟨ao, cap, e, hel⟩ := h
  obtain ⟨b, off, u, e1, c, p⟩ := hel k hk
  simp only [Value.slice.injEq] at e
  exact ⟨b, off, u, e.1.trans e1, c, p⟩

set_option maxRecDepth 20000 in
set_option maxHeartbeats 3200000 in
theorem specPictureOk8 (wd ht : Int) (xo : Option Addr) (xc : Nat) (X : List (List Int)) (w : World) (hr : Rd2 w (.slice xo X.length xc) X) (hs : szR lenI X ≤ 1048576) (t : Bool) (HT : Hid (picB 8 wd ht X = t)) :
    Calls Try.prog 14 #[.agg #[.int .i64 8, .int .i64 wd, .int .i64 ht, .slice xo X.length xc]] w fun e w' => e = .returned (.bool t) ∧ w.grownBy w' none := by
  obtain ⟨n, HN⟩ : ∃ n, Hid (X.length = n) := ⟨_, rfl⟩
  have hn : n ≤ 1048576 := by have := szR_len lenI X; rw [unhide HN] at this; omega
  have HS := hide hs
  have HR := hide hr
  clear hr hs
  rw [unhide HN] at HR ⊢
  obtain ⟨t1, H1⟩ : ∃ t, Hid (decide (1 ≤ wd ∧ wd ≤ 256) = t) := ⟨_, rfl⟩
  obtain ⟨t2, H2⟩ : ∃ t, Hid (decide (1 ≤ ht ∧ ht ≤ 256) = t) := ⟨_, rfl⟩
  obtain ⟨t3, H3⟩ : ∃ t, Hid (decide (1 ≤ (n : Int) ∧ (n : Int) ≤ 4) = t) := ⟨_, rfl⟩
  have ht0 : (t1 && (t2 && (decide (wd * ht ≤ 16384) && t3)) && X.all (planeOkB 8 (wd * ht))) = t := by
    rw [← unhide HT, picB, picHead, headB, unhide HN, unhide H1, unhide H2, unhide H3]
    simp [Bool.and_assoc]
  have HT2 := hide ht0
  clear ht0 HT
  go_enter Try.func14, Try.ntmps14
  go_wp2_with fail
  refine (between wd 1 256 t1 H1 _).mono ?_
  rintro e w1 ⟨rfl, rfl⟩
  cases t1 with
  | false =>
    obtain rfl : t = false := by have := unhide HT2; simpa using this.symm
    go_wp2
    go_ret
    exact ⟨rfl, grown_alloc (World.grownBy.refl _ _) _⟩
  | true =>
  go_wp2_with fail
  refine (between ht 1 256 t2 H2 _).mono ?_
  rintro e w1 ⟨rfl, rfl⟩
  cases t2 with
  | false =>
    obtain rfl : t = false := by have := unhide HT2; simpa using this.symm
    go_wp2
    go_ret
    exact ⟨rfl, grown_alloc (World.grownBy.refl _ _) _⟩
  | true =>
  have hw1 : 1 ≤ wd ∧ wd ≤ 256 := of_decide_eq_true (unhide H1)
  have hh1 : 1 ≤ ht ∧ ht ≤ 256 := of_decide_eq_true (unhide H2)
  have hms := mul_side hw1 hh1
  obtain ⟨m, HM⟩ : ∃ m, Hid (wd * ht = m) := ⟨_, rfl⟩
  have hmw : IntKind.i64.wrap (wd * ht) = m := by rw [i64_in _ (by omega)]; exact unhide HM
  rw [unhide HM] at hms
  rw [unhide HM] at HT2
  by_cases hm : 16384 < m
  · obtain rfl : t = false := by
      have := unhide HT2
      rw [decide_eq_false (show ¬ m ≤ 16384 by omega)] at this
      simpa using this.symm
    go_wp2
    go_ret
    exact ⟨rfl, grown_alloc (World.grownBy.refl _ _) _⟩
  rw [decide_eq_true (show m ≤ 16384 by omega)] at HT2
  have hdm : decide ((16384 : Int) < m) = false := decide_eq_false hm
  go_wp2_with fail
  refine (between (n : Int) 1 4 t3 H3 _).mono ?_
  rintro e w1 ⟨rfl, rfl⟩
  cases t3 with
  | false =>
    obtain rfl : t = false := by have := unhide HT2; simpa using this.symm
    go_wp2
    go_ret
    exact ⟨rfl, grown_alloc (World.grownBy.refl _ _) _⟩
  | true =>
  have hn4 : 1 ≤ (n : Int) ∧ (n : Int) ≤ 4 := of_decide_eq_true (unhide H3)
  have HTX : Hid (X.all (planeOkB 8 m) = t) := by unfold Hid; have := unhide HT2; simpa using this
  obtain ⟨W0, hW0⟩ : ∃ W0, (w.alloc (.cells #[.int .i64 8, .int .i64 wd, .int .i64 ht, .slice xo n xc] 33)) = W0 := ⟨_, rfl⟩
  have HG0 : Hid (w.grownBy W0 none) := by rw [← hW0]; exact World.grownBy_alloc _ _ _
  have B0 : Hid (W0.heap[w.heap.size]? = some (.cells #[.int .i64 8, .int .i64 wd, .int .i64 ht, .slice xo n xc] 33 (0, 0))) := by rw [← hW0]; exact heap_alloc_new w _
  have HR0 := hide (st2 _ _ _ _ (unhide HR) (unhide HG0))
  rw [hW0]
  clear hW0 HT2 H1 H2 H3 HR
  generalize hsz : w.heap.size = s at *
  clear hsz
  go_wp2
  go_loopw [3] (fun i wr => ∃ k : Nat, k ≤ n ∧ i = .int .i64 k ∧ Hid (∀ j (hj : j < X.length), j < k → planeOkB 8 m X[j] = true) ∧ Hid (W0.grownBy wr none)) (fun i _ => n - (intOf i).toNat)
  case atStart => exact ⟨0, by omega, by go_num, fun j _ hj => absurd hj (by omega), World.grownBy.refl _ _⟩
  case round =>
    obtain ⟨k, hk, rfl, HK, HG⟩ := hrel
    have kk := hide (grown_at7 (unhide HG) (unhide B0) (by simp))
    have c0 := rowAt (unhide kk) 0 rfl
    have c1 := rowAt (unhide kk) 1 rfl
    have c2 := rowAt (unhide kk) 2 rfl
    have c3 := rowAt (unhide kk) 3 rfl
    by_cases hlt : k < n
    · have hkI : (k : Int) < (n : Int) := by omega
      have hkX : k < X.length := by have := unhide HN; omega
      have e9 := i64_in ((k : Int) + 1) (by omega)
      obtain ⟨b, off, u, rfl, cx, hu⟩ := rd2_at (st2 _ _ _ _ (unhide HR0) (unhide HG)) hkX
      obtain ⟨ro, rc, rfl, hrr⟩ := hu
      obtain ⟨L, HL⟩ : ∃ L, Hid (X[k] = L) := ⟨X[k], rfl⟩
      have hLs : lenI X[k] ≤ 1048576 := Nat.le_trans (szR_el lenI X k hkX).2 (unhide HS)
      have HRR := hide hrr
      rw [unhide HL] at HRR cx
      have hLl : L.length ≤ 1048576 := by rw [unhide HL] at hLs; exact hLs
      clear hrr hLs
      have kI : (0 : Int) ≤ (k : Int) := by omega
      obtain ⟨ln, HLN⟩ : ∃ ln, Hid (L.length = ln) := ⟨_, rfl⟩
      rw [unhide HLN] at HRR cx hLl
      have KX := hide cx
      by_cases hlen : (ln : Int) = m
      rotate_left 1
      · have hne : ((ln : Int) != m) = true := by simpa using hlen
        obtain rfl : t = false := by
          rw [← unhide HTX]
          refine all_no hkX ?_
          rw [unhide HL, planeOkB, unhide HLN, decide_eq_false hlen]; rfl
        have HGR := hide (grown_trans (unhide HG0) (unhide HG))
        clear hlen
        go_wp2
        go_quiet (fail)
        go_wp2
        go_ret
        exact ⟨rfl, grown_drewN (unhide HGR) _⟩
      have hne : ((ln : Int) != m) = false := by simpa using hlen
      go_wp2
      go_quiet (fail)
      rename_i nq
      have HG1 : Hid (W0.grownBy (wr.drewN nq) none) := grown_drewN (unhide HG) nq
      have KK : Hid ((wr.drewN nq).heap[s]? = _) := kk
      have KX1 : Hid ((wr.drewN nq).cell? _ = _) := KX
      have HRR1 : Hid (Rd .i64 (wr.drewN nq) ro ln L) := unhide HRR
      clear c0 c1 c2 c3 cx kk KX HRR HG
      generalize wr.drewN nq = w2 at *
      go_wp2
      go_loopw [4] (fun i wr => ∃ q : Nat, q ≤ ln ∧ i = .int .i64 q ∧ Hid (∀ j (hj : j < L.length), j < q → decide (0 ≤ L[j] ∧ L[j] ≤ 255) = true) ∧ Hid (w2.grownBy wr none)) (fun i _ => ln - (intOf i).toNat)
      case atStart => exact ⟨0, by omega, by go_num, fun j _ hj => absurd hj (by omega), World.grownBy.refl _ _⟩
      case round =>
        obtain ⟨q, hq, rfl, HQ, HG⟩ := hrel
        have kk := hide (grown_at7 (unhide HG) (unhide KK) (by simp))
        have kx := hide ((unhide HG).cell (unhide KX1) (by simp))
        have c0 := rowAt (unhide kk) 0 rfl
        have c3 := rowAt (unhide kk) 3 rfl
        have cx := unhide kx
        have k0 := hide c0
        have k3 := hide c3
        have qI : (0 : Int) ≤ (q : Int) := by omega
        have e8 := i64_in ((q : Int) + 1) (by omega)
        by_cases hql : q < ln
        · have hqI : (q : Int) < (ln : Int) := by omega
          have hqL : q < L.length := by have := unhide HLN; omega
          obtain ⟨rb, rof, rfl, hz⟩ := ((unhide HRR1).grown (unhide HG)).2 q hql
          obtain ⟨z, HZ⟩ : ∃ z, Hid (L.getD q 0 = z) := ⟨_, rfl⟩
          rw [unhide HZ] at hz
          have kz := hide hz
          have hLz : L[q] = z := by rw [← unhide HZ]; simp [hqL]
          have HLZ := hide hLz
          obtain ⟨tb, HTB⟩ : ∃ t, Hid (decide (0 ≤ z ∧ z ≤ 255) = t) := ⟨_, rfl⟩
          clear hz hLz
          go_wp2
          clear c0 c3 cx
          refine wp_region_noPanic ?_
          refine wp_region_tail (fun W => wr.drew.grownBy W none) [true, true, true, true, true, true, true, true, true, true, true, true, false, false] (by kernel_rfl) (fun _ _ _ _ _ h => h) rfl (by kernel_rfl) (World.grownBy.refl _ _) ?_
          have D0 := hide ((grown_drew (World.grownBy.refl wr none)).cell (unhide k0) (by simp))
          have D3 := hide ((grown_drew (World.grownBy.refl wr none)).cell (unhide k3) (by simp))
          have DX := hide ((grown_drew (World.grownBy.refl wr none)).cell (unhide kx) (by simp))
          have DZ := hide ((grown_drew (World.grownBy.refl wr none)).cell (unhide kz) (by simp))
          have gD := hide (grown_drew (unhide HG))
          generalize wr.drew = W1 at *
          refine heldF_take (v := ?_) (Or.inl ⟨by rfl, ?_⟩) ?_
          rotate_left 1
          · intro w' hSw
            go_simp
            try with_reducible rfl
          try simp only [Act.put, List.setIfInBounds_toArray, List.set_cons_zero, List.set_cons_succ]
          refine heldF_take (v := ?_) (Or.inl ⟨by rfl, ?_⟩) ?_
          rotate_left 1
          · intro w' hSw
            have cc := hSw.cell (unhide D3) (by simp)
            go_simp
            try with_reducible rfl
          try simp only [Act.put, List.setIfInBounds_toArray, List.set_cons_zero, List.set_cons_succ]
          refine heldF_take (v := ?_) (Or.inl ⟨by rfl, ?_⟩) ?_
          rotate_left 1
          · intro w' hSw
            go_simp
            try with_reducible rfl
          try simp only [Act.put, List.setIfInBounds_toArray, List.set_cons_zero, List.set_cons_succ]
          refine heldF_take (v := ?_) (Or.inl ⟨by rfl, ?_⟩) ?_
          rotate_left 1
          · intro w' hSw
            go_simp
            try with_reducible rfl
          try simp only [Act.put, List.setIfInBounds_toArray, List.set_cons_zero, List.set_cons_succ]
          refine heldF_take (v := ?_) (Or.inl ⟨by rfl, ?_⟩) ?_
          rotate_left 1
          · intro w' hSw
            have cc := hSw.cell (unhide DX) (by simp)
            go_simp
            try with_reducible rfl
          try simp only [Act.put, List.setIfInBounds_toArray, List.set_cons_zero, List.set_cons_succ]
          refine heldF_take (v := ?_) (Or.inl ⟨by rfl, ?_⟩) ?_
          rotate_left 1
          · intro w' hSw
            go_simp
            try with_reducible rfl
          try simp only [Act.put, List.setIfInBounds_toArray, List.set_cons_zero, List.set_cons_succ]
          refine heldF_take (v := ?_) (Or.inl ⟨by rfl, ?_⟩) ?_
          rotate_left 1
          · intro w' hSw
            go_simp
            try with_reducible rfl
          try simp only [Act.put, List.setIfInBounds_toArray, List.set_cons_zero, List.set_cons_succ]
          refine heldF_take (v := ?_) (Or.inl ⟨by rfl, ?_⟩) ?_
          rotate_left 1
          · intro w' hSw
            have cc := hSw.cell (unhide DZ) (by simp)
            go_simp
            try with_reducible rfl
          try simp only [Act.put, List.setIfInBounds_toArray, List.set_cons_zero, List.set_cons_succ]
          refine heldF_take (v := ?_) (Or.inl ⟨by rfl, ?_⟩) ?_
          rotate_left 1
          · intro w' hSw
            go_simp
            try with_reducible rfl
          try simp only [Act.put, List.setIfInBounds_toArray, List.set_cons_zero, List.set_cons_succ]
          refine heldF_take (v := ?_) (Or.inl ⟨by rfl, ?_⟩) ?_
          rotate_left 1
          · intro w' hSw
            have cc := hSw.cell (unhide D0) (by simp)
            go_simp
            try with_reducible rfl
          try simp only [Act.put, List.setIfInBounds_toArray, List.set_cons_zero, List.set_cons_succ]
          refine heldF_take (v := .int .i64 256) (Or.inl ⟨by rfl, ?_⟩) ?_
          · intro w' hSw
            kernel_rfl
          try simp only [Act.put, List.setIfInBounds_toArray, List.set_cons_zero, List.set_cons_succ]
          refine heldF_take (v := .int .i64 255) (Or.inl ⟨by rfl, ?_⟩) ?_
          · intro w' hSw
            kernel_rfl
          try simp only [Act.put, List.setIfInBounds_toArray, List.set_cons_zero, List.set_cons_succ]
          refine heldF_skip ?_
          refine heldF_skip ?_
          refine heldF_nil ?_
          refine tailF_skip ?_
          refine tailF_skip ?_
          refine tailF_skip ?_
          refine tailF_skip ?_
          refine tailF_skip ?_
          refine tailF_skip ?_
          refine tailF_skip ?_
          refine tailF_skip ?_
          refine tailF_skip ?_
          refine tailF_skip ?_
          refine tailF_skip ?_
          refine tailF_skip ?_
          refine tailF_step (fun K hK => ?_)
          go_simp
          refine (between z 0 255 tb HTB W1).mono ?_
          rintro e w4 ⟨rfl, rfl⟩
          refine hK.out _ _ (World.grownBy.refl _ _) ?_
          clear hK K
          try simp only [Act.put, List.setIfInBounds_toArray, List.set_cons_zero, List.set_cons_succ]
          refine tailF_step (fun K hK => ?_)
          go_simp
          refine hK.out _ _ (World.grownBy.refl _ _) ?_
          clear hK K
          try simp only [Act.put, List.setIfInBounds_toArray, List.set_cons_zero, List.set_cons_succ]
          refine tailF_nil (NoPanic.normal ?_)
          try simp only [Act.put]
          cases tb with
          | false =>
            obtain rfl : t = false := by
              rw [← unhide HTX]
              refine all_no hkX ?_
              have h1 : (L.all fun z => decide (0 ≤ z ∧ z ≤ topI 8)) = false := all_no hqL (by rw [unhide HLZ]; exact unhide HTB)
              rw [unhide HL, planeOkB, h1, Bool.and_false]
            have HGR := hide (grown_trans (grown_trans (unhide HG0) (unhide HG1)) (unhide gD))
            go_wp2
            go_ret
            exact ⟨rfl, unhide HGR⟩
          | true =>
            have HQ' : Hid (∀ j (hj : j < L.length), j < q + 1 → decide (0 ≤ L[j] ∧ L[j] ≤ 255) = true) := fun j hj hjq => by
              by_cases e : j = q
              · subst e; rw [unhide HLZ]; exact unhide HTB
              · exact unhide HQ j hj (by omega)
            go_wp2
            go_roundw
            case rel => exact ⟨q + 1, by omega, by go_num, HQ', gD⟩
            case measure => simp [intOf]; omega
        · obtain rfl : q = ln := by omega
          have HK' : Hid (∀ j (hj : j < X.length), j < k + 1 → planeOkB 8 m X[j] = true) := fun j hj hjk => by
            by_cases e : j = k
            · subst e
              have h1 : (L.all fun z => decide (0 ≤ z ∧ z ≤ topI 8)) = true := all_yes (fun i hi => unhide HQ i hi (by have := unhide HLN; omega))
              rw [unhide HL, planeOkB, unhide HLN, decide_eq_true hlen, h1]; rfl
            · exact unhide HK j hj (by omega)
          have HGR := hide (grown_trans (unhide HG1) (unhide HG))
          go_wp2
          go_roundw
          case rel => exact ⟨k + 1, by omega, by go_num, HK', HGR⟩
          case measure => simp [intOf]; omega
    · obtain rfl : k = n := by omega
      obtain rfl : t = true := by rw [← unhide HTX]; exact all_yes (fun i hi => unhide HK i hi (by have := unhide HN; omega))
      have HGR := hide (grown_trans (unhide HG0) (unhide HG))
      go_wp2
      go_ret
      exact ⟨rfl, unhide HGR⟩

set_option maxRecDepth 20000 in
set_option maxHeartbeats 3200000 in
theorem specPictureOk12 (wd ht : Int) (xo : Option Addr) (xc : Nat) (X : List (List Int)) (w : World) (hr : Rd2 w (.slice xo X.length xc) X) (hs : szR lenI X ≤ 1048576) (t : Bool) (HT : Hid (picB 12 wd ht X = t)) :
    Calls Try.prog 14 #[.agg #[.int .i64 12, .int .i64 wd, .int .i64 ht, .slice xo X.length xc]] w fun e w' => e = .returned (.bool t) ∧ w.grownBy w' none := by
  obtain ⟨n, HN⟩ : ∃ n, Hid (X.length = n) := ⟨_, rfl⟩
  have hn : n ≤ 1048576 := by have := szR_len lenI X; rw [unhide HN] at this; omega
  have HS := hide hs
  have HR := hide hr
  clear hr hs
  rw [unhide HN] at HR ⊢
  obtain ⟨t1, H1⟩ : ∃ t, Hid (decide (1 ≤ wd ∧ wd ≤ 256) = t) := ⟨_, rfl⟩
  obtain ⟨t2, H2⟩ : ∃ t, Hid (decide (1 ≤ ht ∧ ht ≤ 256) = t) := ⟨_, rfl⟩
  obtain ⟨t3, H3⟩ : ∃ t, Hid (decide (1 ≤ (n : Int) ∧ (n : Int) ≤ 4) = t) := ⟨_, rfl⟩
  have ht0 : (t1 && (t2 && (decide (wd * ht ≤ 16384) && t3)) && X.all (planeOkB 12 (wd * ht))) = t := by
    rw [← unhide HT, picB, picHead, headB, unhide HN, unhide H1, unhide H2, unhide H3]
    simp [Bool.and_assoc]
  have HT2 := hide ht0
  clear ht0 HT
  go_enter Try.func14, Try.ntmps14
  go_wp2_with fail
  refine (between wd 1 256 t1 H1 _).mono ?_
  rintro e w1 ⟨rfl, rfl⟩
  cases t1 with
  | false =>
    obtain rfl : t = false := by have := unhide HT2; simpa using this.symm
    go_wp2
    go_ret
    exact ⟨rfl, grown_alloc (World.grownBy.refl _ _) _⟩
  | true =>
  go_wp2_with fail
  refine (between ht 1 256 t2 H2 _).mono ?_
  rintro e w1 ⟨rfl, rfl⟩
  cases t2 with
  | false =>
    obtain rfl : t = false := by have := unhide HT2; simpa using this.symm
    go_wp2
    go_ret
    exact ⟨rfl, grown_alloc (World.grownBy.refl _ _) _⟩
  | true =>
  have hw1 : 1 ≤ wd ∧ wd ≤ 256 := of_decide_eq_true (unhide H1)
  have hh1 : 1 ≤ ht ∧ ht ≤ 256 := of_decide_eq_true (unhide H2)
  have hms := mul_side hw1 hh1
  obtain ⟨m, HM⟩ : ∃ m, Hid (wd * ht = m) := ⟨_, rfl⟩
  have hmw : IntKind.i64.wrap (wd * ht) = m := by rw [i64_in _ (by omega)]; exact unhide HM
  rw [unhide HM] at hms
  rw [unhide HM] at HT2
  by_cases hm : 16384 < m
  · obtain rfl : t = false := by
      have := unhide HT2
      rw [decide_eq_false (show ¬ m ≤ 16384 by omega)] at this
      simpa using this.symm
    go_wp2
    go_ret
    exact ⟨rfl, grown_alloc (World.grownBy.refl _ _) _⟩
  rw [decide_eq_true (show m ≤ 16384 by omega)] at HT2
  have hdm : decide ((16384 : Int) < m) = false := decide_eq_false hm
  go_wp2_with fail
  refine (between (n : Int) 1 4 t3 H3 _).mono ?_
  rintro e w1 ⟨rfl, rfl⟩
  cases t3 with
  | false =>
    obtain rfl : t = false := by have := unhide HT2; simpa using this.symm
    go_wp2
    go_ret
    exact ⟨rfl, grown_alloc (World.grownBy.refl _ _) _⟩
  | true =>
  have hn4 : 1 ≤ (n : Int) ∧ (n : Int) ≤ 4 := of_decide_eq_true (unhide H3)
  have HTX : Hid (X.all (planeOkB 12 m) = t) := by unfold Hid; have := unhide HT2; simpa using this
  obtain ⟨W0, hW0⟩ : ∃ W0, (w.alloc (.cells #[.int .i64 12, .int .i64 wd, .int .i64 ht, .slice xo n xc] 33)) = W0 := ⟨_, rfl⟩
  have HG0 : Hid (w.grownBy W0 none) := by rw [← hW0]; exact World.grownBy_alloc _ _ _
  have B0 : Hid (W0.heap[w.heap.size]? = some (.cells #[.int .i64 12, .int .i64 wd, .int .i64 ht, .slice xo n xc] 33 (0, 0))) := by rw [← hW0]; exact heap_alloc_new w _
  have HR0 := hide (st2 _ _ _ _ (unhide HR) (unhide HG0))
  rw [hW0]
  clear hW0 HT2 H1 H2 H3 HR
  generalize hsz : w.heap.size = s at *
  clear hsz
  go_wp2
  go_loopw [3] (fun i wr => ∃ k : Nat, k ≤ n ∧ i = .int .i64 k ∧ Hid (∀ j (hj : j < X.length), j < k → planeOkB 12 m X[j] = true) ∧ Hid (W0.grownBy wr none)) (fun i _ => n - (intOf i).toNat)
  case atStart => exact ⟨0, by omega, by go_num, fun j _ hj => absurd hj (by omega), World.grownBy.refl _ _⟩
  case round =>
    obtain ⟨k, hk, rfl, HK, HG⟩ := hrel
    have kk := hide (grown_at7 (unhide HG) (unhide B0) (by simp))
    have c0 := rowAt (unhide kk) 0 rfl
    have c1 := rowAt (unhide kk) 1 rfl
    have c2 := rowAt (unhide kk) 2 rfl
    have c3 := rowAt (unhide kk) 3 rfl
    by_cases hlt : k < n
    · have hkI : (k : Int) < (n : Int) := by omega
      have hkX : k < X.length := by have := unhide HN; omega
      have e9 := i64_in ((k : Int) + 1) (by omega)
      obtain ⟨b, off, u, rfl, cx, hu⟩ := rd2_at (st2 _ _ _ _ (unhide HR0) (unhide HG)) hkX
      obtain ⟨ro, rc, rfl, hrr⟩ := hu
      obtain ⟨L, HL⟩ : ∃ L, Hid (X[k] = L) := ⟨X[k], rfl⟩
      have hLs : lenI X[k] ≤ 1048576 := Nat.le_trans (szR_el lenI X k hkX).2 (unhide HS)
      have HRR := hide hrr
      rw [unhide HL] at HRR cx
      have hLl : L.length ≤ 1048576 := by rw [unhide HL] at hLs; exact hLs
      clear hrr hLs
      have kI : (0 : Int) ≤ (k : Int) := by omega
      obtain ⟨ln, HLN⟩ : ∃ ln, Hid (L.length = ln) := ⟨_, rfl⟩
      rw [unhide HLN] at HRR cx hLl
      have KX := hide cx
      by_cases hlen : (ln : Int) = m
      rotate_left 1
      · have hne : ((ln : Int) != m) = true := by simpa using hlen
        obtain rfl : t = false := by
          rw [← unhide HTX]
          refine all_no hkX ?_
          rw [unhide HL, planeOkB, unhide HLN, decide_eq_false hlen]; rfl
        have HGR := hide (grown_trans (unhide HG0) (unhide HG))
        clear hlen
        go_wp2
        go_quiet (fail)
        go_wp2
        go_ret
        exact ⟨rfl, grown_drewN (unhide HGR) _⟩
      have hne : ((ln : Int) != m) = false := by simpa using hlen
      go_wp2
      go_quiet (fail)
      rename_i nq
      have HG1 : Hid (W0.grownBy (wr.drewN nq) none) := grown_drewN (unhide HG) nq
      have KK : Hid ((wr.drewN nq).heap[s]? = _) := kk
      have KX1 : Hid ((wr.drewN nq).cell? _ = _) := KX
      have HRR1 : Hid (Rd .i64 (wr.drewN nq) ro ln L) := unhide HRR
      clear c0 c1 c2 c3 cx kk KX HRR HG
      generalize wr.drewN nq = w2 at *
      go_wp2
      go_loopw [4] (fun i wr => ∃ q : Nat, q ≤ ln ∧ i = .int .i64 q ∧ Hid (∀ j (hj : j < L.length), j < q → decide (0 ≤ L[j] ∧ L[j] ≤ 4095) = true) ∧ Hid (w2.grownBy wr none)) (fun i _ => ln - (intOf i).toNat)
      case atStart => exact ⟨0, by omega, by go_num, fun j _ hj => absurd hj (by omega), World.grownBy.refl _ _⟩
      case round =>
        obtain ⟨q, hq, rfl, HQ, HG⟩ := hrel
        have kk := hide (grown_at7 (unhide HG) (unhide KK) (by simp))
        have kx := hide ((unhide HG).cell (unhide KX1) (by simp))
        have c0 := rowAt (unhide kk) 0 rfl
        have c3 := rowAt (unhide kk) 3 rfl
        have cx := unhide kx
        have k0 := hide c0
        have k3 := hide c3
        have qI : (0 : Int) ≤ (q : Int) := by omega
        have e8 := i64_in ((q : Int) + 1) (by omega)
        by_cases hql : q < ln
        · have hqI : (q : Int) < (ln : Int) := by omega
          have hqL : q < L.length := by have := unhide HLN; omega
          obtain ⟨rb, rof, rfl, hz⟩ := ((unhide HRR1).grown (unhide HG)).2 q hql
          obtain ⟨z, HZ⟩ : ∃ z, Hid (L.getD q 0 = z) := ⟨_, rfl⟩
          rw [unhide HZ] at hz
          have kz := hide hz
          have hLz : L[q] = z := by rw [← unhide HZ]; simp [hqL]
          have HLZ := hide hLz
          obtain ⟨tb, HTB⟩ : ∃ t, Hid (decide (0 ≤ z ∧ z ≤ 4095) = t) := ⟨_, rfl⟩
          clear hz hLz
          go_wp2
          clear c0 c3 cx
          refine wp_region_noPanic ?_
          refine wp_region_tail (fun W => wr.drew.grownBy W none) [true, true, true, true, true, true, true, true, true, true, true, true, false, false] (by kernel_rfl) (fun _ _ _ _ _ h => h) rfl (by kernel_rfl) (World.grownBy.refl _ _) ?_
          have D0 := hide ((grown_drew (World.grownBy.refl wr none)).cell (unhide k0) (by simp))
          have D3 := hide ((grown_drew (World.grownBy.refl wr none)).cell (unhide k3) (by simp))
          have DX := hide ((grown_drew (World.grownBy.refl wr none)).cell (unhide kx) (by simp))
          have DZ := hide ((grown_drew (World.grownBy.refl wr none)).cell (unhide kz) (by simp))
          have gD := hide (grown_drew (unhide HG))
          generalize wr.drew = W1 at *
          refine heldF_take (v := ?_) (Or.inl ⟨by rfl, ?_⟩) ?_
          rotate_left 1
          · intro w' hSw
            go_simp
            try with_reducible rfl
          try simp only [Act.put, List.setIfInBounds_toArray, List.set_cons_zero, List.set_cons_succ]
          refine heldF_take (v := ?_) (Or.inl ⟨by rfl, ?_⟩) ?_
          rotate_left 1
          · intro w' hSw
            have cc := hSw.cell (unhide D3) (by simp)
            go_simp
            try with_reducible rfl
          try simp only [Act.put, List.setIfInBounds_toArray, List.set_cons_zero, List.set_cons_succ]
          refine heldF_take (v := ?_) (Or.inl ⟨by rfl, ?_⟩) ?_
          rotate_left 1
          · intro w' hSw
            go_simp
            try with_reducible rfl
          try simp only [Act.put, List.setIfInBounds_toArray, List.set_cons_zero, List.set_cons_succ]
          refine heldF_take (v := ?_) (Or.inl ⟨by rfl, ?_⟩) ?_
          rotate_left 1
          · intro w' hSw
            go_simp
            try with_reducible rfl
          try simp only [Act.put, List.setIfInBounds_toArray, List.set_cons_zero, List.set_cons_succ]
          refine heldF_take (v := ?_) (Or.inl ⟨by rfl, ?_⟩) ?_
          rotate_left 1
          · intro w' hSw
            have cc := hSw.cell (unhide DX) (by simp)
            go_simp
            try with_reducible rfl
          try simp only [Act.put, List.setIfInBounds_toArray, List.set_cons_zero, List.set_cons_succ]
          refine heldF_take (v := ?_) (Or.inl ⟨by rfl, ?_⟩) ?_
          rotate_left 1
          · intro w' hSw
            go_simp
            try with_reducible rfl
          try simp only [Act.put, List.setIfInBounds_toArray, List.set_cons_zero, List.set_cons_succ]
          refine heldF_take (v := ?_) (Or.inl ⟨by rfl, ?_⟩) ?_
          rotate_left 1
          · intro w' hSw
            go_simp
            try with_reducible rfl
          try simp only [Act.put, List.setIfInBounds_toArray, List.set_cons_zero, List.set_cons_succ]
          refine heldF_take (v := ?_) (Or.inl ⟨by rfl, ?_⟩) ?_
          rotate_left 1
          · intro w' hSw
            have cc := hSw.cell (unhide DZ) (by simp)
            go_simp
            try with_reducible rfl
          try simp only [Act.put, List.setIfInBounds_toArray, List.set_cons_zero, List.set_cons_succ]
          refine heldF_take (v := ?_) (Or.inl ⟨by rfl, ?_⟩) ?_
          rotate_left 1
          · intro w' hSw
            go_simp
            try with_reducible rfl
          try simp only [Act.put, List.setIfInBounds_toArray, List.set_cons_zero, List.set_cons_succ]
          refine heldF_take (v := ?_) (Or.inl ⟨by rfl, ?_⟩) ?_
          rotate_left 1
          · intro w' hSw
            have cc := hSw.cell (unhide D0) (by simp)
            go_simp
            try with_reducible rfl
          try simp only [Act.put, List.setIfInBounds_toArray, List.set_cons_zero, List.set_cons_succ]
          refine heldF_take (v := .int .i64 4096) (Or.inl ⟨by rfl, ?_⟩) ?_
          · intro w' hSw
            kernel_rfl
          try simp only [Act.put, List.setIfInBounds_toArray, List.set_cons_zero, List.set_cons_succ]
          refine heldF_take (v := .int .i64 4095) (Or.inl ⟨by rfl, ?_⟩) ?_
          · intro w' hSw
            kernel_rfl
          try simp only [Act.put, List.setIfInBounds_toArray, List.set_cons_zero, List.set_cons_succ]
          refine heldF_skip ?_
          refine heldF_skip ?_
          refine heldF_nil ?_
          refine tailF_skip ?_
          refine tailF_skip ?_
          refine tailF_skip ?_
          refine tailF_skip ?_
          refine tailF_skip ?_
          refine tailF_skip ?_
          refine tailF_skip ?_
          refine tailF_skip ?_
          refine tailF_skip ?_
          refine tailF_skip ?_
          refine tailF_skip ?_
          refine tailF_skip ?_
          refine tailF_step (fun K hK => ?_)
          go_simp
          refine (between z 0 4095 tb HTB W1).mono ?_
          rintro e w4 ⟨rfl, rfl⟩
          refine hK.out _ _ (World.grownBy.refl _ _) ?_
          clear hK K
          try simp only [Act.put, List.setIfInBounds_toArray, List.set_cons_zero, List.set_cons_succ]
          refine tailF_step (fun K hK => ?_)
          go_simp
          refine hK.out _ _ (World.grownBy.refl _ _) ?_
          clear hK K
          try simp only [Act.put, List.setIfInBounds_toArray, List.set_cons_zero, List.set_cons_succ]
          refine tailF_nil (NoPanic.normal ?_)
          try simp only [Act.put]
          cases tb with
          | false =>
            obtain rfl : t = false := by
              rw [← unhide HTX]
              refine all_no hkX ?_
              have h1 : (L.all fun z => decide (0 ≤ z ∧ z ≤ topI 12)) = false := all_no hqL (by rw [unhide HLZ]; exact unhide HTB)
              rw [unhide HL, planeOkB, h1, Bool.and_false]
            have HGR := hide (grown_trans (grown_trans (unhide HG0) (unhide HG1)) (unhide gD))
            go_wp2
            go_ret
            exact ⟨rfl, unhide HGR⟩
          | true =>
            have HQ' : Hid (∀ j (hj : j < L.length), j < q + 1 → decide (0 ≤ L[j] ∧ L[j] ≤ 4095) = true) := fun j hj hjq => by
              by_cases e : j = q
              · subst e; rw [unhide HLZ]; exact unhide HTB
              · exact unhide HQ j hj (by omega)
            go_wp2
            go_roundw
            case rel => exact ⟨q + 1, by omega, by go_num, HQ', gD⟩
            case measure => simp [intOf]; omega
        · obtain rfl : q = ln := by omega
          have HK' : Hid (∀ j (hj : j < X.length), j < k + 1 → planeOkB 12 m X[j] = true) := fun j hj hjk => by
            by_cases e : j = k
            · subst e
              have h1 : (L.all fun z => decide (0 ≤ z ∧ z ≤ topI 12)) = true := all_yes (fun i hi => unhide HQ i hi (by have := unhide HLN; omega))
              rw [unhide HL, planeOkB, unhide HLN, decide_eq_true hlen, h1]; rfl
            · exact unhide HK j hj (by omega)
          have HGR := hide (grown_trans (unhide HG1) (unhide HG))
          go_wp2
          go_roundw
          case rel => exact ⟨k + 1, by omega, by go_num, HK', HGR⟩
          case measure => simp [intOf]; omega
    · obtain rfl : k = n := by omega
      obtain rfl : t = true := by rw [← unhide HTX]; exact all_yes (fun i hi => unhide HK i hi (by have := unhide HN; omega))
      have HGR := hide (grown_trans (unhide HG0) (unhide HG))
      go_wp2
      go_ret
      exact ⟨rfl, unhide HGR⟩

theorem specPictureOkNo (p wd ht : Int) (h8 : ¬ p = 8) (h12 : ¬ p = 12) (v : Value) (w : World) :
    Calls Try.prog 14 #[.agg #[.int .i64 p, .int .i64 wd, .int .i64 ht, v]] w fun e w' => e = .returned (.bool false) ∧ w.grownBy w' none := by
  have e1 : (p != 8) = true := by simpa using h8
  have e2 : (p != 12) = true := by simpa using h12
  go_enter Try.func14, Try.ntmps14
  go_wp2
  go_ret
  exact ⟨rfl, grown_alloc (World.grownBy.refl _ _) _⟩

theorem picB_no {p wd ht : Int} {X : List (List Int)} (h8 : ¬ p = 8) (h12 : ¬ p = 12) : picB p wd ht X = false := by
  unfold picB picHead headB
  have e1 : (p == 8) = false := by simpa using h8
  have e2 : (p == 12) = false := by simpa using h12
  rw [e1, e2]; rfl

theorem specPictureOk (a : Pic) (u : Value) (w : World) (hr : RdPi w u a) (hs : szPi a ≤ 1048576) (t : Bool) (HT : Hid (picB a.p a.wd a.ht a.X = t)) :
    Calls Try.prog 14 #[u] w fun e w' => e = .returned (.bool t) ∧ w.grownBy w' none := by
  obtain ⟨p, wd, ht, X⟩ := a
  obtain ⟨v, rfl, hv⟩ := hr
  dsimp only at HT hv ⊢
  obtain ⟨xo, xc, rfl, _⟩ := id hv
  by_cases h8 : p = 8
  · subst h8; exact specPictureOk8 wd ht xo xc X w hv hs t HT
  by_cases h12 : p = 12
  · subst h12; exact specPictureOk12 wd ht xo xc X w hv hs t HT
  obtain rfl : t = false := by rw [← unhide HT]; exact picB_no h8 h12
  exact specPictureOkNo p wd ht h8 h12 _ w

end Go.Proofs.Ytgknninkfdgebaa
