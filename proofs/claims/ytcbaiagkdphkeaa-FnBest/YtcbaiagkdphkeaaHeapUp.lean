/-
  A thing goes up or down in the heap, in the program.
-/
import Derived.Test.YtcbaiagkdphkeaaHeapSwap
namespace Go.Proofs.Ytcbaiagkdphkeaa
open Go.RowKit

theorem meth_load (w : World) (hb : Nat) (v : Value) (hc : w.cell? ⟨hb, 0, none⟩ = some v) : (loadVar 76 ⟨hb, 0, none⟩).run Try.prog w = .ok v w := by
  simp [loadVar, go_sem, hc]
theorem methLess (w : World) (hb : Nat) (v : Value) (hc : w.cell? ⟨hb, 0, none⟩ = some v) : (method 228 75 (.pointer (some ⟨hb, 0, none⟩)) "Less").run Try.prog w = .ok (92, v) w := by
  have h : (method 228 75 (.pointer (some ⟨hb, 0, none⟩)) "Less").run Try.prog w = ((loadVar 76 ⟨hb, 0, none⟩) >>= fun x => pure (92, x)).run Try.prog w := by kernel_rfl
  rw [h]
  simp [meth_load w hb v hc]
theorem methSwap (w : World) (hb : Nat) (v : Value) (hc : w.cell? ⟨hb, 0, none⟩ = some v) : (method 228 75 (.pointer (some ⟨hb, 0, none⟩)) "Swap").run Try.prog w = .ok (95, v) w := by
  have h : (method 228 75 (.pointer (some ⟨hb, 0, none⟩)) "Swap").run Try.prog w = ((loadVar 76 ⟨hb, 0, none⟩) >>= fun x => pure (95, x)).run Try.prog w := by kernel_rfl
  rw [h]
  simp [meth_load w hb v hc]
theorem methLen (w : World) (hb : Nat) (v : Value) (hc : w.cell? ⟨hb, 0, none⟩ = some v) : (method 228 75 (.pointer (some ⟨hb, 0, none⟩)) "Len").run Try.prog w = .ok (68, v) w := by
  have h : (method 228 75 (.pointer (some ⟨hb, 0, none⟩)) "Len").run Try.prog w = ((loadVar 76 ⟨hb, 0, none⟩) >>= fun x => pure (68, x)).run Try.prog w := by kernel_rfl
  rw [h]
  simp [meth_load w hb v hc]
theorem methPush (w : World) (hb : Nat) : (method 228 75 (.pointer (some ⟨hb, 0, none⟩)) "Push").run Try.prog w = .ok (94, .pointer (some ⟨hb, 0, none⟩)) w := by kernel_rfl
theorem methPop (w : World) (hb : Nat) : (method 228 75 (.pointer (some ⟨hb, 0, none⟩)) "Pop").run Try.prog w = .ok (93, .pointer (some ⟨hb, 0, none⟩)) w := by kernel_rfl

theorem par_tdiv (k : Nat) (h : 0 < k) : ((k : Int) - 1).tdiv 2 = (((k - 1) / 2 : Nat) : Int) := by
  rw [Int.tdiv_eq_ediv_of_nonneg (by omega)]; omega

set_option maxRecDepth 20000 in
set_option maxHeartbeats 1600000 in
theorem implUp {B : Bs} {w : World} {hb : Nat} {L : List Hp} {c : Int} {v : Value} {n : Nat} (h : Hx B hb w v L c) (hl : L.length = n) (hn : n ≤ 1000) (j : Nat) (hj : j < n) (hu : HeapUp L n j) :
    Calls Try.prog 72 #[.iface 75 (.pointer (some ⟨hb, 0, none⟩)), .int .i64 j] w fun e w' => e = .returned (.tuple #[]) ∧ ∃ L', Hx B hb w' v L' c ∧ L'.Perm L ∧ HeapN L' n := by
  obtain ⟨ao, cap, rfl⟩ := h.form
  rw [hl] at h
  have H := hide h
  have HU := hide hu
  have HL := hide hl
  clear h hu hl
  rw [unhide HL]
  go_enter Try.func72, Try.ntmps72
  go_wp2
  go_loopw [1] (fun jv wr => ∃ (k : Nat) (M : List Hp), k < n ∧ jv = .int .i64 k ∧ Hid (Hx B hb wr (.slice ao n cap) M c) ∧ Hid (HeapUp M n k) ∧ Hid (M.Perm L)) (fun jv _ => (intOf jv).toNat)
  case atStart => exact ⟨j, L, hj, rfl, H, HU, List.Perm.refl _⟩
  case round =>
    clear H HU
    obtain ⟨k, M, hk, rfl, hx, hup, hp⟩ := hrel
    have HML : Hid (M.length = n) := (unhide hp).length_eq.trans (unhide HL)
    by_cases h0 : k = 0
    · subst h0
      have ht : ((0 : Int) - 1).tdiv 2 = 0 := by decide
      have HN := hide (heap_up_top (unhide hup))
      go_wp2
      exact bodyPost_end (v := .tuple #[]) (by simp [results, Try.results72, go_sem]) rfl ⟨rfl, M, unhide hx, unhide hp, unhide HN⟩
    · have ht := par_tdiv k (by omega)
      have e1 := i64_in ((k : Int) - 1) (by omega)
      obtain ⟨i, hi⟩ : ∃ i, (k - 1) / 2 = i := ⟨_, rfl⟩
      rw [hi] at ht
      have hik : i < k := by omega
      have hne : ((i : Int) == (k : Int)) = false := by simp; omega
      obtain ⟨b, HB⟩ : ∃ b, Hid (ltH (at_ M k) (at_ M i) = b) := ⟨_, rfl⟩
      have mL := methLess wr hb _ (unhide hx).cell.1
      have HR : Hid (RdP wr ao n M) := by
        have h1 := (unhide hx).own
        rw [← unhide HML] at h1 ⊢
        exact own_rdT h1
      have HSTEP : Hid (ltH (at_ M k) (at_ M i) = true → HeapUp (swapL M i k) n i) := fun hlt => by
        have := heap_up_step (unhide hup) (by rw [unhide HML]; exact Nat.le_refl _) hk (by omega) (by rw [hi]; exact hlt)
        rwa [hi] at this
      have HEND : Hid (ltH (at_ M k) (at_ M i) = false → HeapN M n) := fun hlt => heap_up_end (unhide hup) (by rw [hi]; exact hlt)
      have HPM : Hid ((swapL M i k).Perm L) := (swapL_perm M i k (by rw [unhide HML]; omega) (by rw [unhide HML]; omega)).trans (unhide hp)
      clear hup
      cases b with
      | false =>
        go_wp2_with fail
        refine (implLess ao n cap M wr (unhide HR) k i (by omega) (by omega) false HB).mono ?_
        rintro e w1 ⟨rfl, g1⟩
        have HX1 := hide ((unhide hx).more g1)
        clear g1 mL
        go_wp2
        exact bodyPost_end (v := .tuple #[]) (by simp [results, Try.results72, go_sem]) rfl ⟨rfl, M, unhide HX1, unhide hp, unhide HEND (unhide HB)⟩
      | true =>
        go_wp2_with fail
        refine (implLess ao n cap M wr (unhide HR) k i (by omega) (by omega) true HB).mono ?_
        rintro e w1 ⟨rfl, g1⟩
        have HX1 := hide ((unhide hx).more g1)
        have mS := methSwap w1 hb _ (unhide HX1).cell.1
        clear g1 mL
        go_wp2_with fail
        refine (implSwap (unhide HX1) (unhide HML) i k (by omega) (by omega)).mono ?_
        rintro e w2 ⟨rfl, hx2⟩
        have HX2 := hide hx2
        have HS2 := hide (unhide HSTEP (unhide HB))
        clear hx2 HSTEP HEND mS
        go_wp2
        go_roundw
        case rel => exact ⟨i, swapL M i k, by omega, rfl, HX2, HS2, HPM⟩
        case measure => simp [intOf]; omega

end Go.Proofs.Ytcbaiagkdphkeaa
