/-
  A thing goes up or down in the heap, in the program.
-/
import Derived.Test.YtcbaiagkdphkeaaHeapSwap
namespace Go.Proofs.Ytcbaiagkdphkeaa
open Go.RowKit

theorem meth_load (w : World) (hb : Nat) (v : Value) (hc : w.cell? ⟨hb, 0, none⟩ = some v) : (loadVar 76 ⟨hb, 0, none⟩).run Try.prog w = .ok v w := by
  simp [loadVar, go_sem, hc]
theorem methLess (w : World) (hb : Nat) (v : Value) (hc : w.cell? ⟨hb, 0, none⟩ = some v) : (method 228 75 (.pointer (some ⟨hb, 0, none⟩)) "Less").run Try.prog w = .ok (92, v) w := by
  have h : (method 228 75 (.pointer (some ⟨hb, 0, none⟩)) "Less").run Try.prog w = ((loadVar 76 ⟨hb, 0, none⟩) >>= fun x => pure (92, x)).run Try.prog w := by kernel_rfl
  rw [h]
  simp [meth_load w hb v hc]
theorem methSwap (w : World) (hb : Nat) (v : Value) (hc : w.cell? ⟨hb, 0, none⟩ = some v) : (method 228 75 (.pointer (some ⟨hb, 0, none⟩)) "Swap").run Try.prog w = .ok (95, v) w := by
  have h : (method 228 75 (.pointer (some ⟨hb, 0, none⟩)) "Swap").run Try.prog w = ((loadVar 76 ⟨hb, 0, none⟩) >>= fun x => pure (95, x)).run Try.prog w := by kernel_rfl
  rw [h]
  simp [meth_load w hb v hc]
theorem methLen (w : World) (hb : Nat) (v : Value) (hc : w.cell? ⟨hb, 0, none⟩ = some v) : (method 228 75 (.pointer (some ⟨hb, 0, none⟩)) "Len").run Try.prog w = .ok (68, v) w := by
  have h : (method 228 75 (.pointer (some ⟨hb, 0, none⟩)) "Len").run Try.prog w = ((loadVar 76 ⟨hb, 0, none⟩) >>= fun x => pure (68, x)).run Try.prog w := by kernel_rfl
  rw [h]
  simp [meth_load w hb v hc]
theorem methPush (w : World) (hb : Nat) : (method 228 75 (.pointer (some ⟨hb, 0, none⟩)) "Push").run Try.prog w = .ok (94, .pointer (some ⟨hb, 0, none⟩)) w := by kernel_rfl
theorem methPop (w : World) (hb : Nat) : (method 228 75 (.pointer (some ⟨hb, 0, none⟩)) "Pop").run Try.prog w = .ok (93, .pointer (some ⟨hb, 0, none⟩)) w := by kernel_rfl

theorem par_tdiv (k : Nat) (h : 0 < k) : ((k : Int) - 1).tdiv 2 = (((k - 1) / 2 : Nat) : Int) := by
  rw [Int.tdiv_eq_ediv_of_nonneg (by omega)]; omega

set_option maxRecDepth 20000 in
set_option maxHeartbeats 1600000 in
theorem implUp {B : Bs} {w : World} {hb : Nat} {L : List Hp} {c : Int} {v : Value} {n : Nat} (h : Hx B hb w v L c) (hl : L.length = n) (hn : n ≤ 1000) (j : Nat) (hj : j < n) (hu : HeapUp L n j) :
    Calls Try.prog 72 #[.iface 75 (.pointer (some ⟨hb, 0, none⟩)), .int .i64 j] w fun e w' => e = .returned (.tuple #[]) ∧ ∃ L', Hx B hb w' v L' c ∧ L'.Perm L ∧ HeapN L' n := by
  obtain ⟨ao, cap, rfl⟩ := h.form
  rw [hl] at h
  have H := hide h
  have HU := hide hu
  have HL := hide hl
  clear h hu hl
  rw [unhide HL]
  go_enter Try.func72, Try.ntmps72
  go_wp2
  go_loopw [1] (fun jv wr => ∃ (k : Nat) (M : List Hp), k < n ∧ jv = .int .i64 k ∧ Hid (Hx B hb wr (.slice ao n cap) M c) ∧ Hid (HeapUp M n k) ∧ Hid (M.Perm L)) (fun jv _ => (intOf jv).toNat)
  case atStart => exact ⟨j, L, hj, rfl, H, HU, List.Perm.refl _⟩
  case round =>
    clear H HU
    obtain ⟨k, M, hk, rfl, hx, hup, hp⟩ := hrel
    have HML : Hid (M.length = n) := (unhide hp).length_eq.trans (unhide HL)
    by_cases h0 : k = 0
    · subst h0
      have ht : ((0 : Int) - 1).tdiv 2 = 0 := by decide
      have HN := hide (heap_up_top (unhide hup))
      go_wp2
      exact bodyPost_end (v := .tuple #[]) (by simp [results, Try.results72, go_sem]) rfl ⟨rfl, M, unhide hx, unhide hp, unhide HN⟩
    · have ht := par_tdiv k (by omega)
      have e1 := i64_in ((k : Int) - 1) (by omega)
      obtain ⟨i, hi⟩ : ∃ i, (k - 1) / 2 = i := ⟨_, rfl⟩
      rw [hi] at ht
      have hik : i < k := by omega
      have hne : ((i : Int) == (k : Int)) = false := by simp; omega
      obtain ⟨b, HB⟩ : ∃ b, Hid (ltH (at_ M k) (at_ M i) = b) := ⟨_, rfl⟩
      have mL := methLess wr hb _ (unhide hx).cell.1
      have HR : Hid (RdP wr ao n M) := by
        have h1 := (unhide hx).own
        rw [← unhide HML] at h1 ⊢
        exact own_rdT h1
      have HSTEP : Hid (ltH (at_ M k) (at_ M i) = true → HeapUp (swapL M i k) n i) := fun hlt => by
        have := heap_up_step (unhide hup) (by rw [unhide HML]; exact Nat.le_refl _) hk (by omega) (by rw [hi]; exact hlt)
        rwa [hi] at this
      have HEND : Hid (ltH (at_ M k) (at_ M i) = false → HeapN M n) := fun hlt => heap_up_end (unhide hup) (by rw [hi]; exact hlt)
      have HPM : Hid ((swapL M i k).Perm L) := (swapL_perm M i k (by rw [unhide HML]; omega) (by rw [unhide HML]; omega)).trans (unhide hp)
      clear hup
      cases b with
      | false =>
        go_wp2_with fail
        refine (implLess ao n cap M wr (unhide HR) k i (by omega) (by omega) false HB).mono ?_
        rintro e w1 ⟨rfl, g1⟩
        have HX1 := hide ((unhide hx).more g1)
        clear g1 mL
        go_wp2
        exact bodyPost_end (v := .tuple #[]) (by simp [results, Try.results72, go_sem]) rfl ⟨rfl, M, unhide HX1, unhide hp, unhide HEND (unhide HB)⟩
      | true =>
        go_wp2_with fail
        refine (implLess ao n cap M wr (unhide HR) k i (by omega) (by omega) true HB).mono ?_
        rintro e w1 ⟨rfl, g1⟩
        have HX1 := hide ((unhide hx).more g1)
        have mS := methSwap w1 hb _ (unhide HX1).cell.1
        clear g1 mL
        go_wp2_with fail
        refine (implSwap (unhide HX1) (unhide HML) i k (by omega) (by omega)).mono ?_
        rintro e w2 ⟨rfl, hx2⟩
        have HX2 := hide hx2
        have HS2 := hide (unhide HSTEP (unhide HB))
        clear hx2 HSTEP HEND mS
        go_wp2
        go_roundw
        case rel => exact ⟨i, swapL M i k, by omega, rfl, HX2, HS2, HPM⟩
        case measure => simp [intOf]; omega
set_option maxRecDepth 20000 in
set_option maxHeartbeats 3200000 in
theorem implDown {B : Bs} {w : World} {hb : Nat} {L : List Hp} {c : Int} {v : Value} {N n : Nat} (h : Hx B hb w v L c) (hl : L.length = N) (hN : N ≤ 1000) (hnN : n ≤ N) (hd : HeapDn L n 0) :
    Calls Try.prog 74 #[.iface 75 (.pointer (some ⟨hb, 0, none⟩)), .int .i64 0, .int .i64 n] w fun e w' => (∃ b, e = .returned (.bool b)) ∧ ∃ L', Hx B hb w' v L' c ∧ L'.Perm L ∧ HeapN L' n ∧ ∀ k, n ≤ k → at_ L' k = at_ L k := by
  obtain ⟨ao, cap, rfl⟩ := h.form
  rw [hl] at h
  have H := hide h
  have HU := hide hd
  have HL := hide hl
  clear h hd hl
  rw [unhide HL]
  go_enter Try.func74, Try.ntmps74
  go_wp2
  go_loopw [7] (fun iv wr => ∃ (i : Nat) (M : List Hp), i ≤ n ∧ iv = .int .i64 i ∧ Hid (Hx B hb wr (.slice ao N cap) M c) ∧ Hid (HeapDn M n i) ∧ Hid (M.Perm L) ∧ Hid (∀ k, n ≤ k → at_ M k = at_ L k)) (fun iv _ => n - (intOf iv).toNat)
  case atStart => exact ⟨0, L, Nat.zero_le _, rfl, H, HU, List.Perm.refl _, fun _ _ => rfl⟩
  case round =>
    clear H HU
    obtain ⟨i, M, hi, rfl, hx, hdn, hp, htl⟩ := hrel
    have HML : Hid (M.length = N) := (unhide hp).length_eq.trans (unhide HL)
    obtain ⟨p, hp1⟩ : ∃ p, 2 * i + 1 = p := ⟨_, rfl⟩
    obtain ⟨q, hp2⟩ : ∃ q, 2 * i + 2 = q := ⟨_, rfl⟩
    have e1 := i64_in (2 * (i : Int)) (by omega)
    have e2 := i64_in (2 * (i : Int) + 1) (by omega)
    have e3 : 2 * (i : Int) + 1 = (p : Int) := by omega
    have e4 : (p : Int) + 1 = (q : Int) := by omega
    have e5 := i64_in ((q : Int)) (by omega)
    have e6 := i64_in ((p : Int)) (by omega)
    rw [e3] at e2
    by_cases h1 : p < n
    · have hd1 : decide ((n : Int) ≤ (p : Int)) = false := decide_eq_false (by omega)
      have hd2 : decide ((p : Int) < 0) = false := decide_eq_false (by omega)
      by_cases h2 : q < n
      · have hd3 : decide ((q : Int) < (n : Int)) = true := decide_eq_true (by omega)
        obtain ⟨b1, HB1⟩ : ∃ b, Hid (ltH (at_ M q) (at_ M p) = b) := ⟨_, rfl⟩
        have mL := methLess wr hb _ (unhide hx).cell.1
        have HR : Hid (RdP wr ao N M) := by
          have h1 := (unhide hx).own
          rw [← unhide HML] at h1 ⊢
          exact own_rdT h1
        cases b1 with
        | false =>
          go_wp2_with fail
          refine (implLess ao N cap M wr (unhide HR) q p (by omega) (by omega) false HB1).mono ?_
          rintro e w0 ⟨rfl, g0⟩
          have HX0 := hide ((unhide hx).more g0)
          clear g0 mL HR hx
          obtain ⟨b2, HB2⟩ : ∃ b, Hid (ltH (at_ M p) (at_ M i) = b) := ⟨_, rfl⟩
          have mL2 := methLess w0 hb _ (unhide HX0).cell.1
          have HR2 : Hid (RdP w0 ao N M) := by
            have h1 := (unhide HX0).own
            rw [← unhide HML] at h1 ⊢
            exact own_rdT h1
          have HSTEP : Hid (ltH (at_ M p) (at_ M i) = true → HeapDn (swapL M i p) n p) := fun hlt => heap_dn_step (unhide hdn) (by rw [unhide HML]; exact hnN) (by omega) (by omega) hlt (fun k h0 hk hp => by rcases (show k = p ∨ k = q by omega) with e | e <;> rw [e] <;> first | exact unhide HB1 | simp [ltH])
          have HEND : Hid (ltH (at_ M p) (at_ M i) = false → HeapN M n) := fun hlt => heap_dn_stop (unhide hdn) (by rw [hp1]; exact hlt) (fun _ => by rw [hp2]; exact ltH_neg (unhide HB1) hlt)
          have HPM : Hid ((swapL M i p).Perm L) := (swapL_perm M i p (by rw [unhide HML]; omega) (by rw [unhide HML]; omega)).trans (unhide hp)
          have HTL : Hid (∀ k, n ≤ k → at_ (swapL M i p) k = at_ L k) := fun k hk => by rw [swapL_at M i p k (by rw [unhide HML]; omega) (by rw [unhide HML]; omega), if_neg (by omega), if_neg (by omega)]; exact unhide htl k hk
          cases b2 with
          | false =>
            go_wp2_with fail
            refine (implLess ao N cap M w0 (unhide HR2) p i (by omega) (by omega) false HB2).mono ?_
            rintro e w1 ⟨rfl, g1⟩
            have HX1 := hide ((unhide HX0).more g1)
            clear g1 mL2 hdn
            go_wp2
            go_ret
            exact ⟨⟨_, rfl⟩, M, unhide HX1, unhide hp, unhide HEND (unhide HB2), unhide htl⟩
          | true =>
            go_wp2_with fail
            refine (implLess ao N cap M w0 (unhide HR2) p i (by omega) (by omega) true HB2).mono ?_
            rintro e w1 ⟨rfl, g1⟩
            have HX1 := hide ((unhide HX0).more g1)
            have mS := methSwap w1 hb _ (unhide HX1).cell.1
            clear g1 mL2 hdn
            go_wp2_with fail
            refine (implSwap (unhide HX1) (unhide HML) i p (by omega) (by omega)).mono ?_
            rintro e w2 ⟨rfl, hx2⟩
            have HX2 := hide hx2
            have HS2 := hide (unhide HSTEP (unhide HB2))
            clear hx2 HSTEP HEND mS
            go_wp2
            go_roundw
            case rel => exact ⟨p, swapL M i p, by omega, rfl, HX2, HS2, HPM, HTL⟩
            case measure => simp [intOf]; omega
        | true =>
          go_wp2_with fail
          refine (implLess ao N cap M wr (unhide HR) q p (by omega) (by omega) true HB1).mono ?_
          rintro e w0 ⟨rfl, g0⟩
          have HX0 := hide ((unhide hx).more g0)
          clear g0 mL HR hx
          obtain ⟨b2, HB2⟩ : ∃ b, Hid (ltH (at_ M q) (at_ M i) = b) := ⟨_, rfl⟩
          have mL2 := methLess w0 hb _ (unhide HX0).cell.1
          have HR2 : Hid (RdP w0 ao N M) := by
            have h1 := (unhide HX0).own
            rw [← unhide HML] at h1 ⊢
            exact own_rdT h1
          have HSTEP : Hid (ltH (at_ M q) (at_ M i) = true → HeapDn (swapL M i q) n q) := fun hlt => heap_dn_step (unhide hdn) (by rw [unhide HML]; exact hnN) (by omega) (by omega) hlt (fun k h0 hk hp => by rcases (show k = p ∨ k = q by omega) with e | e <;> rw [e] <;> first | exact ltH_asymm (unhide HB1) | simp [ltH])
          have HEND : Hid (ltH (at_ M q) (at_ M i) = false → HeapN M n) := fun hlt => heap_dn_stop (unhide hdn) (by rw [hp1]; exact ltH_neg (ltH_asymm (unhide HB1)) hlt) (fun _ => by rw [hp2]; exact hlt)
          have HPM : Hid ((swapL M i q).Perm L) := (swapL_perm M i q (by rw [unhide HML]; omega) (by rw [unhide HML]; omega)).trans (unhide hp)
          have HTL : Hid (∀ k, n ≤ k → at_ (swapL M i q) k = at_ L k) := fun k hk => by rw [swapL_at M i q k (by rw [unhide HML]; omega) (by rw [unhide HML]; omega), if_neg (by omega), if_neg (by omega)]; exact unhide htl k hk
          cases b2 with
          | false =>
            go_wp2_with fail
            refine (implLess ao N cap M w0 (unhide HR2) q i (by omega) (by omega) false HB2).mono ?_
            rintro e w1 ⟨rfl, g1⟩
            have HX1 := hide ((unhide HX0).more g1)
            clear g1 mL2 hdn
            go_wp2
            go_ret
            exact ⟨⟨_, rfl⟩, M, unhide HX1, unhide hp, unhide HEND (unhide HB2), unhide htl⟩
          | true =>
            go_wp2_with fail
            refine (implLess ao N cap M w0 (unhide HR2) q i (by omega) (by omega) true HB2).mono ?_
            rintro e w1 ⟨rfl, g1⟩
            have HX1 := hide ((unhide HX0).more g1)
            have mS := methSwap w1 hb _ (unhide HX1).cell.1
            clear g1 mL2 hdn
            go_wp2_with fail
            refine (implSwap (unhide HX1) (unhide HML) i q (by omega) (by omega)).mono ?_
            rintro e w2 ⟨rfl, hx2⟩
            have HX2 := hide hx2
            have HS2 := hide (unhide HSTEP (unhide HB2))
            clear hx2 HSTEP HEND mS
            go_wp2
            go_roundw
            case rel => exact ⟨q, swapL M i q, by omega, rfl, HX2, HS2, HPM, HTL⟩
            case measure => simp [intOf]; omega
      · have hd3 : decide ((q : Int) < (n : Int)) = false := decide_eq_false (by omega)
        obtain ⟨b2, HB2⟩ : ∃ b, Hid (ltH (at_ M p) (at_ M i) = b) := ⟨_, rfl⟩
        have mL2 := methLess wr hb _ (unhide hx).cell.1
        have HR2 : Hid (RdP wr ao N M) := by
          have h1 := (unhide hx).own
          rw [← unhide HML] at h1 ⊢
          exact own_rdT h1
        have HSTEP : Hid (ltH (at_ M p) (at_ M i) = true → HeapDn (swapL M i p) n p) := fun hlt => heap_dn_step (unhide hdn) (by rw [unhide HML]; exact hnN) (by omega) (by omega) hlt (fun k h0 hk hp => by rw [show k = p by omega]; simp [ltH])
        have HEND : Hid (ltH (at_ M p) (at_ M i) = false → HeapN M n) := fun hlt => heap_dn_stop (unhide hdn) (by rw [hp1]; exact hlt) (fun h2 => by omega)
        have HPM : Hid ((swapL M i p).Perm L) := (swapL_perm M i p (by rw [unhide HML]; omega) (by rw [unhide HML]; omega)).trans (unhide hp)
        have HTL : Hid (∀ k, n ≤ k → at_ (swapL M i p) k = at_ L k) := fun k hk => by rw [swapL_at M i p k (by rw [unhide HML]; omega) (by rw [unhide HML]; omega), if_neg (by omega), if_neg (by omega)]; exact unhide htl k hk
        cases b2 with
        | false =>
          go_wp2_with fail
          refine (implLess ao N cap M wr (unhide HR2) p i (by omega) (by omega) false HB2).mono ?_
          rintro e w1 ⟨rfl, g1⟩
          have HX1 := hide ((unhide hx).more g1)
          clear g1 mL2 hdn
          go_wp2
          go_ret
          exact ⟨⟨_, rfl⟩, M, unhide HX1, unhide hp, unhide HEND (unhide HB2), unhide htl⟩
        | true =>
          go_wp2_with fail
          refine (implLess ao N cap M wr (unhide HR2) p i (by omega) (by omega) true HB2).mono ?_
          rintro e w1 ⟨rfl, g1⟩
          have HX1 := hide ((unhide hx).more g1)
          have mS := methSwap w1 hb _ (unhide HX1).cell.1
          clear g1 mL2 hdn
          go_wp2_with fail
          refine (implSwap (unhide HX1) (unhide HML) i p (by omega) (by omega)).mono ?_
          rintro e w2 ⟨rfl, hx2⟩
          have HX2 := hide hx2
          have HS2 := hide (unhide HSTEP (unhide HB2))
          clear hx2 HSTEP HEND mS
          go_wp2
          go_roundw
          case rel => exact ⟨p, swapL M i p, by omega, rfl, HX2, HS2, HPM, HTL⟩
          case measure => simp [intOf]; omega
    · have hd1 : decide ((n : Int) ≤ (p : Int)) = true := decide_eq_true (by omega)
      have HN := hide (heap_dn_end (unhide hdn) (by omega))
      clear hdn
      go_wp2
      go_ret
      exact ⟨⟨_, rfl⟩, M, unhide hx, unhide hp, unhide HN, unhide htl⟩

end Go.Proofs.Ytcbaiagkdphkeaa
