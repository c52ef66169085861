/-
  The laws' own small functions on rows of rows (IntSS).
-/
import Derived.Test.YtgknninkfdgebaaDeepC
import Derived.Test.YtgknninkfdgebaaHeldLast
import Derived.Deep.QuietTactic
import Derived.BigQuiet
import Derived.Deep.RegionHeld3
namespace Go.Proofs.Ytgknninkfdgebaa
open Go.RowKit

theorem infoIntSS : (Try.prog.info? 22).map (fun i => (i.zero, i.size, i.bytes)) = some (some (.slice none 0 0), 1, 24) := by kernel_rfl

theorem fillIntSS (a : List (List Int)) (i : Nat) (h : i < a.length) : (a.take i ++ List.replicate (a.length - i) []).set i a[i] = a.take (i + 1) ++ List.replicate (a.length - (i + 1)) [] := by
  have hl : (a.take i).length = i := by rw [List.length_take]; omega
  rw [List.set_append_right _ _ (by omega), hl, Nat.sub_self, show a.length - i = (a.length - (i + 1)) + 1 by omega, List.replicate_succ, List.set_cons_zero, List.take_succ_eq_append_getElem h, List.append_assoc]
  rfl

set_option maxRecDepth 20000 in
set_option maxHeartbeats 1600000 in
theorem toIntSSD (HE : ToC 8 (RdI .i64) (OwI .i64 3) (lenI)) (hQ : StR (RdI .i64)) (hP : OwOk (OwI .i64 3)) (hN : ∀ w, (OwI .i64 3) w (.slice none 0 0) [] []) : ToC 34 (RdR (RdI .i64)) (OwR 22 (OwI .i64 3)) (szR (lenI)) := by
  intro w u a hq hs
  obtain ⟨ao, cap, rfl, hel⟩ := hq
  obtain ⟨i0, hi, hz0, hz1, hz2⟩ := info_parts infoIntSS
  have HEL := hide hel
  have HEE := hide HE
  have hlen := szR_len (lenI) a
  have HSE := hide (fun i h => (szR_el (lenI) a i h).2)
  obtain ⟨n, HN⟩ : ∃ n, Hid (a.length = n) := ⟨_, rfl⟩
  have hn : n ≤ 1048576 := by have := unhide HN; omega
  have HS := hide hs
  rw [unhide HN]
  clear hel HE hs hlen
  go_enter Try.func34, Try.ntmps34
  go_wp2_with (at_make; refine wpList_make_full _ rfl _ _ 28 rfl w.heap.size 22 i0 (.slice none 0 0) 1 Try.underlying28 hi hz0 hz1 .i64 .i64 _ _ n rfl rfl rfl rfl (by rw [hz2]; omega) (by unfold maxLen; omega) (Nat.le_refl _) ?_)
  intro w1 hown hgrow
  rw [toList_madeCells_one] at hown
  have HO1 : Hid (OwR 22 (OwI .i64 3) w1 (.slice (some ⟨w.heap.size, 0, none⟩) n n) (a.take 0 ++ List.replicate (a.length - 0) []) (blk (.slice (some ⟨w.heap.size, 0, none⟩) n n))) := by
    have h := OwR.made hN hown
    rw [List.take_zero, List.nil_append, Nat.sub_zero, unhide HN]
    exact h
  have HG1 := hide hgrow
  have HF1 : Hid (∀ g ∈ blk (.slice (some ⟨w.heap.size, 0, none⟩) n n), w.heap.size ≤ g) := fun g hg => by have : w.heap.size = g := Option.some.inj (mem_blk.1 hg); omega
  clear hown hgrow hi hz0 hz1 hz2
  go_wp2
  go_loopw [4] (fun iv wr => ∃ (i : Nat) (F : List Nat), i ≤ n ∧ iv = .int .i64 i ∧ Hid (OwR 22 (OwI .i64 3) wr (.slice (some ⟨w.heap.size, 0, none⟩) n n) (a.take i ++ List.replicate (a.length - i) []) F) ∧ Hid F.Nodup ∧ Hid (∀ g ∈ F, w.heap.size ≤ g) ∧ Hid (w.grownBy wr none)) (fun iv _ => n - (intOf iv).toNat)
  case atStart => exact ⟨0, _, Nat.zero_le _, rfl, HO1, blk_nodup _, HF1, HG1⟩
  case round =>
    clear HO1 HG1 HF1
    obtain ⟨i, F, hin, rfl, ho, hnd, hF, hg⟩ := hrel
    by_cases hlt : i < n
    · have hia : i < a.length := by rw [unhide HN]; exact hlt
      obtain ⟨b, off, u, rfl, c0, q0⟩ := unhide HEL i hia
      have c1 := (unhide hg).cell c0 (by simp)
      have HT := hide (unhide HEE wr u a[i] (hQ _ _ _ _ q0 (unhide hg)) (Nat.le_trans (unhide HSE i hia) (unhide HS)))
      have hiI : (i : Int) < (n : Int) := by omega
      clear c0 q0
      go_wp2_with fail
      refine (unhide HT).mono ?_
      rintro e w2 ⟨u', F', rfl, p2, n2, b2, g2⟩
      obtain ⟨uo, un, uc, rfl⟩ := hP.form _ _ _ _ p2
      have ho2 := (OwR.ok hP).keep (unhide ho) g2
      have hll : i < (a.take i ++ List.replicate (a.length - i) ([] : List Int)).length := by simp; omega
      obtain ⟨g0, cap0, u0, e0, c2, f2⟩ := ho2.slot i hll
      obtain rfl : g0 = w.heap.size := by simp at e0; exact e0.1.symm
      obtain ⟨F3, o3, n3, m3⟩ := ho2.put hP (unhide hnd) i hll (g := w.heap.size) rfl p2 n2 (fun x hx hx2 => by
        have h1 := b2 x hx
        have h2 := (OwR.ok hP).lt _ _ _ _ (unhide ho) x hx2
        omega)
      rw [fillIntSS a i hia] at o3
      have HO3 := hide o3
      have HF3 : Hid (∀ g ∈ F3, w.heap.size ≤ g) := fun g hg3 => by
        rcases m3 g hg3 with h | h
        · exact unhide hF g h
        · exact Nat.le_trans (unhide hg).size (b2 g h)
      have HG3 : Hid (w.grownBy (w2.setCell ⟨w.heap.size, i, none⟩ (.slice uo un uc)) none) := grown_new (grown_trans (unhide hg) g2) (grown_set w2 w.heap.size i (.slice uo un uc)) (fun k e => by have := Option.some.inj e; omega)
      have HN3 := hide n3
      clear ho2 o3 n3 m3 p2 n2 b2 g2 HT ho hnd hF hg e0 c1
      go_wp2
      go_roundw
      case rel => exact ⟨i + 1, F3, by omega, by go_num, HO3, HN3, HF3, HG3⟩
      case measure => simp [intOf]; omega
    · obtain rfl : i = n := by omega
      have HO4 : Hid (OwR 22 (OwI .i64 3) wr (.slice (some ⟨w.heap.size, 0, none⟩) i i) a F) := by
        have h := unhide ho
        rw [← unhide HN, List.take_length, Nat.sub_self, List.replicate_zero, List.append_nil, unhide HN] at h
        exact h
      clear ho
      go_wp2
      go_ret
      exact ⟨_, F, rfl, unhide HO4, unhide hnd, unhide hF, unhide hg⟩

set_option maxRecDepth 20000 in
set_option maxHeartbeats 1600000 in
theorem eqIntSSD (HE : EqC 10 (RdI .i64) (lenI)) (hQ : StR (RdI .i64)) : EqC 42 (RdR (RdI .i64)) (szR (lenI)) := by
  intro w u u' a hq hq' hs
  obtain ⟨ao, cap, rfl, hel⟩ := hq
  obtain ⟨bo, cap', rfl, hel'⟩ := hq'
  have HEL := hide hel
  have HEM := hide hel'
  have HEE := hide HE
  have hlen := szR_len (lenI) a
  have HSE := hide (fun i h => (szR_el (lenI) a i h).2)
  obtain ⟨n, HN⟩ : ∃ n, Hid (a.length = n) := ⟨_, rfl⟩
  have hn : n ≤ 1048576 := by have := unhide HN; omega
  have HS := hide hs
  rw [unhide HN]
  have hne : ((n : Int) != n) = false := by simp
  clear hel hel' HE hs hlen
  go_enter Try.func42, Try.ntmps42
  go_wp2
  go_loopw [5] (fun iv wr => ∃ i : Nat, i ≤ n ∧ iv = .int .i64 i ∧ Hid (w.grownBy wr none)) (fun iv _ => n - (intOf iv).toNat)
  case atStart => exact ⟨0, Nat.zero_le _, rfl, World.grownBy.refl _ _⟩
  case round =>
    obtain ⟨i, hin, rfl, hg⟩ := hrel
    by_cases hlt : i < n
    · have hia : i < a.length := by rw [unhide HN]; exact hlt
      obtain ⟨b, off, u, rfl, c0, q0⟩ := unhide HEL i hia
      obtain ⟨b', off', u', rfl, c0', q0'⟩ := unhide HEM i hia
      have d0 := (unhide hg).cell c0 (by simp)
      have d1 := (unhide hg).cell c0' (by simp)
      have HD := hide (And.intro d0 d1)
      have HT : Hid (∀ W, wr.grownBy W none → Calls Try.prog 10 #[u, u'] W fun e w' => e = .returned (.bool true) ∧ W.grownBy w' none) := fun W gW => unhide HEE W u u' a[i] (hQ _ _ _ _ q0 (grown_trans (unhide hg) gW)) (hQ _ _ _ _ q0' (grown_trans (unhide hg) gW)) (Nat.le_trans (unhide HSE i hia) (unhide HS))
      have hiI : (i : Int) < (n : Int) := by omega
      clear c0 q0 c0' q0'
      go_wp2
      refine wp_region_noPanic ?_
      refine wp_region_tailL 20 (fun w' => w'.cell? ⟨b, off + i, none⟩ = some u ∧ w'.cell? ⟨b', off' + i, none⟩ = some u') [true, true, true, true, true, true, true, true, false, false] (by kernel_rfl) (fun _ _ _ _ _ h => h) rfl (by decide) (by kernel_rfl) (unhide HD) ?_
      iterate 8
        refine heldF_take (v := ?_) (Or.inl ⟨by rfl, ?_⟩) ?_
        rotate_left 1
        · intro w' hSw
          try dsimp only at hSw
          obtain ⟨z0, z1⟩ := hSw
          go_simp
          try with_reducible rfl
        simp only [Act.put, List.setIfInBounds_toArray, List.set_cons_zero, List.set_cons_succ]
      iterate 2 refine heldF_skip ?_
      refine heldF_nil ?_
      iterate 8 refine tailL_skip ?_
      refine tailL_step (fun K hK => ?_)
      go_simp
      refine (unhide HT _ (grown_drew (World.grownBy.refl _ _))).mono ?_
      rintro e w2 ⟨rfl, g2⟩
      have g3 := grown_trans (grown_drew (World.grownBy.refl wr none)) g2
      have HD2 := hide (And.intro (g3.cell d0 (by simp)) (g3.cell d1 (by simp)))
      have HG3 := hide (grown_trans (unhide hg) g3)
      clear g2 g3 hg HT d0 d1 HD
      go_simp
      refine hK.out _ _ (.inr (unhide HD2)) ?_
      clear hK K
      refine tailL_step (fun K hK => ?_)
      go_simp
      refine hK.out _ _ (.inl rfl) ?_
      clear hK K HD2
      refine tailL_nil (NoPanic.normal ?_)
      go_wp2
      go_roundw
      case rel => exact ⟨i + 1, by omega, by go_num, HG3⟩
      case measure => simp [intOf]; omega
    · obtain rfl : i = n := by omega
      go_wp2
      go_ret
      exact ⟨rfl, unhide hg⟩

set_option maxRecDepth 20000 in
set_option maxHeartbeats 1600000 in
theorem markIntSSD (HE : MarkC 11 (OwI .i64 3) (mkI) (lenI) (lenI)) (hP : OwOk (OwI .i64 3)) : MarkC 48 (OwR 22 (OwI .i64 3)) (mkR (mkI) (lenI)) (cntR (lenI)) (szR (lenI)) := by
  intro w u a F k hp hnd hs hk0 hk1
  obtain ⟨ao, cap, rfl⟩ := hp.form
  have HEE := hide HE
  have HND := hide hnd
  have hlen := szR_len (lenI) a
  have HSE := hide (fun i h => (szR_el (lenI) a i h).2)
  have H0 : Hid (OwR 22 (OwI .i64 3) w (.slice ao a.length cap) (overR (mkI) (lenI) a k 0) F) := hp
  obtain ⟨n, HN⟩ : ∃ n, Hid (a.length = n) := ⟨_, rfl⟩
  have hn : n ≤ 1048576 := by have := unhide HN; omega
  have HS := hide hs
  obtain ⟨tot, HTOT⟩ : ∃ tot, Hid (cntR (lenI) a = tot) := ⟨_, rfl⟩
  rw [unhide HTOT] at hk1 ⊢
  rw [unhide HN] at H0 ⊢
  obtain ⟨A2, HA2⟩ : ∃ A2, Hid (mkR (mkI) (lenI) a k = A2) := ⟨_, rfl⟩
  rw [unhide HA2]
  clear hp HE hs hlen hnd
  go_enter Try.func48, Try.ntmps48
  go_wp2
  go_loopw [1, 5] (fun kv iv wr => ∃ (i c : Nat), i ≤ n ∧ iv = .int .i64 i ∧ kv = .int .i64 (k + (c : Int)) ∧ Hid (cntR (lenI) (a.take i) = c) ∧ Hid (OwR 22 (OwI .i64 3) wr (.slice ao n cap) (overR (mkI) (lenI) a k i) F) ∧ Hid (Wr F w wr)) (fun _ iv _ => n - (intOf iv).toNat)
  case atStart => exact ⟨0, 0, Nat.zero_le _, rfl, by simp, rfl, H0, Wr.refl _ _⟩
  case round =>
    clear H0
    obtain ⟨i, c, hin, rfl, rfl, hc, ho, hw⟩ := hrel
    by_cases hlt : i < n
    · have hia : i < a.length := by rw [unhide HN]; exact hlt
      have hol : i < (overR (mkI) (lenI) a k i).length := by rw [overR_len _ _ _ _ _ (by omega)]; exact hia
      have hnx := cntR_next (lenI) a i hia
      have hle := cntR_le (lenI) a (i + 1)
      rw [unhide hc] at hnx
      rw [hnx, unhide HTOT] at hle
      obtain ⟨g, cap0, u, Fi, e0, hgF, c0, p0, nd0, _, sub0, back⟩ := (unhide ho).at hP (unhide HND) i hol
      rw [overR_at (mkI) (lenI) a k i hia] at p0
      obtain ⟨rfl, rfl⟩ : ao = some ⟨g, 0, none⟩ ∧ cap = cap0 := by simp at e0; exact ⟨e0.1, e0.2.2⟩
      have HT := hide (unhide HEE wr u a[i] Fi (k + (c : Int)) p0 nd0 (Nat.le_trans (unhide HSE i hia) (unhide HS)) (by omega) (by omega))
      obtain ⟨ce, HCE⟩ : ∃ ce, Hid ((lenI) a[i] = ce) := ⟨_, hide rfl⟩
      rw [unhide HCE] at HT hnx hle
      have HBK := hide back
      have HSB := hide sub0
      have HNX := hide hnx
      have hiI : (i : Int) < (n : Int) := by omega
      clear p0 nd0 back sub0 e0 hgF hnx
      go_wp2_with fail
      refine (unhide HT).mono ?_
      rintro e w2 ⟨rfl, p2, g2⟩
      have h2 := unhide HBK w2 _ g2 p2
      rw [← unhide hc, overR_set (mkI) (lenI) a k i hia] at h2
      have HO2 := hide h2
      have HW2 := hide ((unhide hw).trans (g2.mono (unhide HSB)))
      clear p2 g2 h2 HT HBK HSB ho hw c0
      have e5 : k + (c : Int) + (ce : Int) = k + ((c + ce : Nat) : Int) := by omega
      rw [e5]
      go_wp2
      go_roundw
      case rel => exact ⟨i + 1, c + ce, by omega, by go_num, rfl, HNX, HO2, HW2⟩
      case measure => simp [intOf]; omega
    · obtain rfl : i = n := by omega
      have HO4 : Hid (OwR 22 (OwI .i64 3) wr (.slice ao i cap) A2 F) := by
        have h := unhide ho
        have e9 : overR (mkI) (lenI) a k i = A2 := by rw [← unhide HN, overR_all]; exact unhide HA2
        rw [e9] at h
        exact h
      have hct : c = tot := by rw [← unhide hc, ← unhide HN, cntR_all]; exact unhide HTOT
      subst hct
      clear ho hc
      go_wp2
      go_ret
      exact ⟨rfl, unhide HO4, unhide hw⟩

set_option maxRecDepth 20000 in
set_option maxHeartbeats 1600000 in
theorem szIntSSD (HE : SzC 56 (RdZ (RdI .i64)) (lenI)) : SzC 32 (RdZ (RdR (RdZ (RdI .i64)))) (szR (lenI)) := by
  intro w u a left hq hl
  obtain ⟨⟨ao, cap, rfl, hel⟩, hmx⟩ := hq
  unfold maxLen at hmx
  have HEL := hide hel
  have HEE := hide HE
  obtain ⟨n, HN⟩ : ∃ n, Hid (a.length = n) := ⟨_, rfl⟩
  have HSZ : Hid (szR (lenI) a = n + cntR (lenI) a) := by unfold Hid szR; rw [unhide HN]; rfl
  obtain ⟨res, HRES⟩ : ∃ res : Int, Hid ((if szR (lenI) a ≤ left then (left : Int) - szR (lenI) a else -1) = res) := ⟨_, rfl⟩
  rw [unhide HRES]
  rw [unhide HN] at hmx ⊢
  have e1 := i64_in ((left : Int) - (n : Int)) (by omega)
  clear hel HE
  by_cases hnl : n ≤ left
  · have hd : decide ((left : Int) - (n : Int) < 0) = false := decide_eq_false (by omega)
    go_enter Try.func32, Try.ntmps32
    go_wp2
    go_loopw [1, 5] (fun kv iv wr => ∃ (i c : Nat), i ≤ n ∧ iv = .int .i64 i ∧ kv = .int .i64 ((left : Int) - (n : Int) - (c : Int)) ∧ n + c ≤ left ∧ Hid (cntR (lenI) (a.take i) = c) ∧ wr = w) (fun _ iv _ => n - (intOf iv).toNat)
    case atStart => exact ⟨0, 0, Nat.zero_le _, rfl, by simp, by omega, rfl, rfl⟩
    case round =>
      obtain ⟨i, c, hin, rfl, rfl, hcl, hc, rfl⟩ := hrel
      by_cases hlt : i < n
      · have hia : i < a.length := by rw [unhide HN]; exact hlt
        have hnx := cntR_next (lenI) a i hia
        have hle := cntR_le (lenI) a (i + 1)
        rw [unhide hc] at hnx
        obtain ⟨b, off, u, rfl, c0, q0⟩ := unhide HEL i hia
        obtain ⟨lf, hlf⟩ : ∃ lf : Nat, left - n - c = lf := ⟨_, rfl⟩
        have e2 : (left : Int) - (n : Int) - (c : Int) = (lf : Int) := by omega
        have HT := hide (unhide HEE wr u a[i] lf q0 (by omega))
        obtain ⟨ce, HCE⟩ : ∃ ce, Hid ((lenI) a[i] = ce) := ⟨_, hide rfl⟩
        rw [unhide HCE] at HT hnx
        have hiI : (i : Int) < (n : Int) := by omega
        rw [e2]
        by_cases hce : ce ≤ lf
        · have hi1 : (if ce ≤ lf then (lf : Int) - (ce : Int) else -1) = (left : Int) - (n : Int) - ((c + ce : Nat) : Int) := by rw [if_pos hce]; omega
          rw [hi1] at HT
          have HNX := hide hnx
          have hneg : decide ((left : Int) - (n : Int) - ((c + ce : Nat) : Int) < 0) = false := decide_eq_false (by omega)
          obtain ⟨kk, HKK⟩ : ∃ kk : Int, Hid ((left : Int) - (n : Int) - ((c + ce : Nat) : Int) = kk) := ⟨_, hide rfl⟩
          rw [unhide HKK] at hneg HT
          clear q0 hnx hle hi1
          go_wp2_with fail
          refine (unhide HT).mono ?_
          rintro e w2 ⟨rfl, rfl⟩
          clear HT
          go_wp2
          go_roundw
          case rel => exact ⟨i + 1, c + ce, by omega, by go_num, by rw [unhide HKK], by omega, HNX, trivial⟩
          case measure => simp [intOf]; omega
        · rw [if_neg hce] at HT
          have hres : res = -1 := by
            rw [← unhide HRES, if_neg]
            rw [unhide HSZ]
            omega
          subst hres
          clear q0 hnx hle
          go_wp2_with fail
          refine (unhide HT).mono ?_
          rintro e w2 ⟨rfl, rfl⟩
          clear HT
          go_wp2
          go_ret
          exact ⟨rfl, rfl⟩
      · obtain rfl : i = n := by omega
        have hct : cntR (lenI) a = c := by rw [← unhide hc, ← unhide HN, cntR_all]
        have hres : res = (left : Int) - (i : Int) - (c : Int) := by
          rw [← unhide HRES, unhide HSZ, hct, if_pos (by omega)]
          omega
        subst hres
        clear hc hct
        go_wp2
        go_ret
        exact ⟨rfl, rfl⟩
  · have hd : decide ((left : Int) - (n : Int) < 0) = true := decide_eq_true (by omega)
    have hres : res = -1 := by
      rw [← unhide HRES, if_neg]
      rw [unhide HSZ]
      omega
    subst hres
    go_enter Try.func32, Try.ntmps32
    go_wp2
    go_ret
    exact ⟨rfl, rfl⟩

end Go.Proofs.Ytgknninkfdgebaa
