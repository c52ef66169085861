/-
  heap.Push and heap.Pop over the program's things.
-/
import Derived.Test.YtcbaiagkdphkeaaHeapPop
namespace Go.Proofs.Ytcbaiagkdphkeaa
open Go.RowKit

theorem implLen (ao : Option Addr) (n cap : Nat) (w : World) : Calls Try.prog 68 #[.slice ao n cap] w fun e w' => e = .returned (.int .i64 n) ∧ w' = w := by
  go_enter Try.func68, Try.ntmps68
  go_wp2
  go_ret
  exact ⟨rfl, rfl⟩

set_option maxRecDepth 20000 in
set_option maxHeartbeats 1600000 in
theorem implHeapPush {B : Bs} {w : World} {hb : Nat} {L : List Hp} {c : Int} {v : Value} (H : Hx B hb w v L c) (hN : HeapN L L.length) (hn : L.length < 1000) (h : Hp) (m : Nat) (hm : Hid (h.ss.length = m)) (hr : Rd .i64 w h.co h.ss.length h.ss) (hpos : 0 < h.ss.length) (haw : ∀ b off, h.co = some ⟨b, off, none⟩ → v.ownBlock ≠ some b ∧ b ≠ hb) :
    Calls Try.prog 66 #[.iface 75 (.pointer (some ⟨hb, 0, none⟩)), .iface 54 (.agg #[.int .i64 h.w, .slice h.co m h.cap, .int .i64 h.c])] w fun e w' => e = .returned (.tuple #[]) ∧ ∃ v' L', Hx B hb w' v' L' c ∧ L'.Perm (L ++ [h]) ∧ HeapN L' L'.length := by
  have mP := methPush w hb
  have HP := hide (implThingsPush H (by omega) h m hm hr hpos haw)
  have HU := hide (heap_add hN h)
  obtain ⟨n, HLn⟩ : ∃ n, Hid (L.length = n) := ⟨_, rfl⟩
  rw [unhide HLn] at HU hn
  have e1 := i64_in (((n + 1 : Nat) : Int) - 1) (by omega)
  have e2 : ((n + 1 : Nat) : Int) - 1 = (n : Int) := by omega
  have e3 := i64_in ((n : Int)) (by omega)
  rw [e2] at e1
  have HL2 : Hid ((L ++ [h]).length = n + 1) := by unfold Hid; simp [unhide HLn]
  clear H hN hr hpos haw
  go_enter Try.func66, Try.ntmps66
  go_wp2_with fail
  refine (unhide HP).mono ?_
  rintro e w1 ⟨rfl, v1, hx1⟩
  obtain ⟨ao, cap, rfl⟩ := hx1.form
  have mN := methLen w1 hb _ hx1.cell.1
  rw [unhide HL2] at mN
  have HX := hide hx1
  clear hx1 HP mP
  go_wp2_with fail
  refine (implLen ao (n + 1) cap w1).mono ?_
  rintro e w2 ⟨rfl, rfl⟩
  clear mN
  go_wp2_with fail
  refine (implUp (unhide HX) (unhide HL2) (by omega) n (by omega) (unhide HU)).mono ?_
  rintro e w3 ⟨rfl, M, hx3, hp3, hn3⟩
  have HF : Hid (∃ v' L', Hx B hb w3 v' L' c ∧ L'.Perm (L ++ [h]) ∧ HeapN L' L'.length) := ⟨_, M, hx3, hp3, by rw [hp3.length_eq, unhide HL2]; exact hn3⟩
  clear hx3 hp3 hn3
  go_wp2
  exact bodyPost_end (v := .tuple #[]) (by simp [results, Try.results66, go_sem]) rfl ⟨rfl, unhide HF⟩

set_option maxRecDepth 20000 in
set_option maxHeartbeats 1600000 in
theorem implHeapPop {B : Bs} {w : World} {hb : Nat} {L : List Hp} {c : Int} {v : Value} {n : Nat} (H : Hx B hb w v L c) (hl : L.length = n + 1) (hN : HeapN L (n + 1)) (hn : n < 1000) :
    Calls Try.prog 69 #[.iface 75 (.pointer (some ⟨hb, 0, none⟩))] w fun e w' => ∃ x v' L', e = .returned (.iface 54 (.agg #[.int .i64 x.w, .slice x.co x.ss.length x.cap, .int .i64 x.c])) ∧ Hx B hb w' v' L' c ∧ L'.length = n ∧ (x :: L').Perm L ∧ HeapN L' n ∧ ∀ y ∈ L, ltH y x = false := by
  obtain ⟨ao, cap, rfl⟩ := H.form
  rw [hl] at H
  have mN := methLen w hb _ H.cell.1
  have mS := methSwap w hb _ H.cell.1
  have HX := hide H
  have HD := hide (heap_take hN hl)
  have HROOT : Hid (∀ y ∈ L, ltH y (at_ L 0) = false) := fun y hy => by
    obtain ⟨k, hk, rfl⟩ := List.getElem_of_mem hy
    have := heap_root hN k (by omega)
    rwa [show at_ L k = L[k] by simp [at_, hk]] at this
  have HL := hide hl
  have HLS : Hid ((swapL L 0 n).length = n + 1) := by unfold Hid; rw [swapL_len, hl]
  have HPS := hide (swapL_perm L 0 n (by omega) (by omega))
  have HAT : Hid (at_ (swapL L 0 n) n = at_ L 0) := by unfold Hid; rw [swapL_at L 0 n n (by omega) (by omega), if_pos rfl]
  have e1 := i64_in (((n + 1 : Nat) : Int) - 1) (by omega)
  have e2 : ((n + 1 : Nat) : Int) - 1 = (n : Int) := by omega
  have e3 := i64_in ((n : Int)) (by omega)
  rw [e2] at e1
  clear H hN hl
  go_enter Try.func69, Try.ntmps69
  go_wp2_with fail
  refine (implLen ao (n + 1) cap w).mono ?_
  rintro e w1 ⟨rfl, rfl⟩
  clear mN
  go_wp2_with fail
  refine (implSwap (unhide HX) (unhide HL) 0 n (by omega) (by omega)).mono ?_
  rintro e w2 ⟨rfl, hx2⟩
  have HX2 := hide hx2
  clear hx2 mS HX
  go_wp2_with fail
  refine (implDown (n := n) (unhide HX2) (unhide HLS) (by omega) (by omega) (unhide HD)).mono ?_
  rintro e w3 ⟨⟨b, rfl⟩, M, hx3, hp3, hn3, ht3⟩
  have mP := methPop w3 hb
  have hML : M.length = n + 1 := hp3.length_eq.trans (unhide HLS)
  have HP := hide (implThingsPop hx3 hML (by omega))
  have hMx : at_ M n = at_ L 0 := (ht3 n (Nat.le_refl _)).trans (unhide HAT)
  have HF : Hid ((M.take n).length = n ∧ (at_ M n :: M.take n).Perm L ∧ HeapN (M.take n) n ∧ ∀ y ∈ L, ltH y (at_ M n) = false) := by
    have htl : (M.take n).length = n := by simp; omega
    refine ⟨htl, ?_, ?_, by rw [hMx]; exact unhide HROOT⟩
    · have e : M = M.take n ++ [at_ M n] := by
        have h1 := List.take_append_drop n M
        rw [List.drop_eq_getElem_cons (show n < M.length by omega), List.drop_eq_nil_of_le (by omega)] at h1
        rw [show at_ M n = M[n]'(by omega) by simp [at_, show n < M.length by omega]]
        exact h1.symm
      have h2 : (M.take n ++ [at_ M n]).Perm L := by rw [← e]; exact hp3.trans (unhide HPS)
      exact (List.perm_append_comm (l₁ := [at_ M n]) (l₂ := M.take n)).trans h2
    · refine heap_congr hn3 (fun k hk => ?_)
      simp [at_, hk]
  clear hx3 hp3 hn3 ht3 hMx
  go_wp2_with fail
  refine (unhide HP).mono ?_
  rintro e w4 ⟨rfl, v4, hx4⟩
  obtain ⟨f1, f2, f3, f4⟩ := unhide HF
  have HEND : Hid (∃ v' L', Hx B hb w4 v' L' c ∧ L'.length = n ∧ (at_ M n :: L').Perm L ∧ HeapN L' n ∧ ∀ y ∈ L, ltH y (at_ M n) = false) := ⟨v4, _, hx4, f1, f2, f3, f4⟩
  clear hx4 f1 f2 f3 f4 HF HP
  generalize at_ M n = x at *
  obtain ⟨k, hk⟩ : ∃ k, x.ss.length = k := ⟨_, rfl⟩
  rw [hk]
  go_wp2
  go_ret
  obtain ⟨v', L', q1, q2, q3, q4, q5⟩ := unhide HEND
  exact ⟨x, v', L', by rw [hk]; rfl, q1, q2, q3, q4, q5⟩

end Go.Proofs.Ytcbaiagkdphkeaa
