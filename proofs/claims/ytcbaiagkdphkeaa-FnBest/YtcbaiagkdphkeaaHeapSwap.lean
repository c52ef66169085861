/-
  Two things change places, in the program.
-/
import Derived.Test.YtcbaiagkdphkeaaHeapLess
import Derived.Test.YtcbaiagkdphkeaaHeldMore
namespace Go.Proofs.Ytcbaiagkdphkeaa
open Go.RowKit

theorem row_some {w : World} {base : Nat} {e : TypeId} {g cap n : Nat} {xs : List Value} {size : Nat} (h : w.ownsRow base e size (.slice (some ⟨g, 0, none⟩) n cap) n xs) (j : Nat) (hj : j < n * size) : ∃ u, w.cell? ⟨g, j, none⟩ = some u := by
  rw [h.cellAt j hj]; exact ⟨_, List.getElem?_eq_getElem (by rw [h.1]; omega)⟩

/-- Both are put in the other's place. -/
def swW (w : World) (g i j : Nat) (x y : Hp) : World :=
  (((((w.setCell ⟨g, i * 3, none⟩ (.int .i64 y.w)).setCell ⟨g, i * 3 + 1, none⟩ (.slice y.co y.ss.length y.cap)).setCell ⟨g, i * 3 + 2, none⟩ (.int .i64 y.c)).setCell ⟨g, j * 3, none⟩ (.int .i64 x.w)).setCell ⟨g, j * 3 + 1, none⟩ (.slice x.co x.ss.length x.cap)).setCell ⟨g, j * 3 + 2, none⟩ (.int .i64 x.c)

set_option maxRecDepth 20000 in
set_option maxHeartbeats 400000 in
theorem implSwapW (g n cap : Nat) (L : List Hp) (w : World) (base : Nat) (e : TypeId) (ho : w.ownsRow base e 3 (.slice (some ⟨g, 0, none⟩) n cap) n (hpCells L)) (hl : L.length = n) (i j : Nat) (hi : i < n) (hj : j < n) :
    Calls Try.prog 95 #[.slice (some ⟨g, 0, none⟩) n cap, .int .i64 i, .int .i64 j] w fun e w' => e = .returned (.tuple #[]) ∧ w' = (swW w g i j (at_ L i) (at_ L j)).drew := by
  subst hl
  obtain ⟨c0, c1, c2⟩ := hpCells_at L i hi
  obtain ⟨d0, d1, d2⟩ := hpCells_at L j hj
  rw [← ho.cellAt _ (by omega)] at c0 c1 c2 d0 d1 d2
  have f0 := ho.frozenAt (i * 3)
  have f1 := ho.frozenAt (i * 3 + 1)
  have f2 := ho.frozenAt (i * 3 + 2)
  have f3 := ho.frozenAt (j * 3)
  have f4 := ho.frozenAt (j * 3 + 1)
  have f5 := ho.frozenAt (j * 3 + 2)
  generalize at_ L i = x at *
  generalize at_ L j = y at *
  have hiI : (i : Int) < (L.length : Int) := by omega
  have hjI : (j : Int) < (L.length : Int) := by omega
  have s1 := (((ho.stored (i * 3) (.int .i64 y.w)).1.stored (i * 3 + 1) (.slice y.co y.ss.length y.cap)).1.stored (i * 3 + 2) (.int .i64 y.c)).1
  have m0 := s1.frozenAt (j * 3)
  have m1 := s1.frozenAt (j * 3 + 1)
  have m2 := s1.frozenAt (j * 3 + 2)
  obtain ⟨v0, k0⟩ := row_some s1 (j * 3) (by omega)
  obtain ⟨v1, k1⟩ := row_some s1 (j * 3 + 1) (by omega)
  obtain ⟨v2, k2⟩ := row_some s1 (j * 3 + 2) (by omega)
  obtain ⟨W1, HW1⟩ : ∃ W1, Hid (((w.setCell ⟨g, i * 3, none⟩ (.int .i64 y.w)).setCell ⟨g, i * 3 + 1, none⟩ (.slice y.co y.ss.length y.cap)).setCell ⟨g, i * 3 + 2, none⟩ (.int .i64 y.c) = W1) := ⟨_, rfl⟩
  have HEND : Hid (((W1.setCell ⟨g, j * 3, none⟩ (.int .i64 x.w)).setCell ⟨g, j * 3 + 1, none⟩ (.slice x.co x.ss.length x.cap)).setCell ⟨g, j * 3 + 2, none⟩ (.int .i64 x.c) = swW w g i j x y) := by unfold Hid swW; rw [← unhide HW1]
  rw [unhide HW1] at k0 k1 k2 m0 m1 m2
  generalize L.length = n at *
  clear s1 ho
  go_enter Try.func95, Try.ntmps95
  go_wp2
  refine wp_region_noPanic ?_
  refine wp_region_more 3 (fun w' => w'.cell? ⟨g, i * 3, none⟩ = some (.int .i64 x.w) ∧ w'.cell? ⟨g, i * 3 + 1, none⟩ = some (.slice x.co x.ss.length x.cap) ∧ w'.cell? ⟨g, i * 3 + 2, none⟩ = some (.int .i64 x.c) ∧ w'.cell? ⟨g, j * 3, none⟩ = some (.int .i64 y.w) ∧ w'.cell? ⟨g, j * 3 + 1, none⟩ = some (.slice y.co y.ss.length y.cap) ∧ w'.cell? ⟨g, j * 3 + 2, none⟩ = some (.int .i64 y.c)) [.free, .free, .free, .free, .free, .free, .free, .held, .free, .free, .free, .held, .free, .tail, .tail, .tail] (by kernel_rfl) (fun _ _ _ _ _ h => h) rfl (by kernel_rfl) ⟨c0, c1, c2, d0, d1, d2⟩ ?_
  iterate 7
    refine heldM_free (v := ?_) (Or.inl ⟨by rfl, ?_⟩) ?_
    rotate_left 1
    · intro w' _
      go_simp
      try with_reducible rfl
    simp only [Act.put, List.setIfInBounds_toArray, List.set_cons_zero, List.set_cons_succ]
  refine heldM_take (v := ?_) (Or.inl ⟨by rfl, ?_⟩) ?_
  rotate_left 1
  · intro w' hSw
    try dsimp only at hSw
    obtain ⟨q0, q1, q2, q3, q4, q5⟩ := hSw
    go_simp
    try with_reducible rfl
  simp only [Act.put, List.setIfInBounds_toArray, List.set_cons_zero, List.set_cons_succ]
  iterate 3
    refine heldM_free (v := ?_) (Or.inl ⟨by rfl, ?_⟩) ?_
    rotate_left 1
    · intro w' _
      go_simp
      try with_reducible rfl
    simp only [Act.put, List.setIfInBounds_toArray, List.set_cons_zero, List.set_cons_succ]
  refine heldM_take (v := ?_) (Or.inl ⟨by rfl, ?_⟩) ?_
  rotate_left 1
  · intro w' hSw
    try dsimp only at hSw
    obtain ⟨q0, q1, q2, q3, q4, q5⟩ := hSw
    go_simp
    try with_reducible rfl
  simp only [Act.put, List.setIfInBounds_toArray, List.set_cons_zero, List.set_cons_succ]
  refine heldM_free (v := ?_) (Or.inl ⟨by rfl, ?_⟩) ?_
  rotate_left 1
  · intro w' _
    go_simp
    try with_reducible rfl
  simp only [Act.put, List.setIfInBounds_toArray, List.set_cons_zero, List.set_cons_succ]
  refine heldM_skip ?_
  refine heldM_skip ?_
  refine heldM_skip ?_
  refine heldM_nil ?_
  iterate 7 refine tailM_skip2 ?_
  refine tailM_skip1 ?_
  iterate 3 refine tailM_skip2 ?_
  refine tailM_skip1 ?_
  refine tailM_skip2 ?_
  refine tailM_step (fun K hK => ?_)
  go_simp
  refine hK.out _ _ ?_
  clear hK K
  rw [unhide HW1]
  clear c0 c1 c2 d0 d1 d2 f0 f1 f2 f3 f4 f5 HW1
  refine tailM_step (fun K hK => ?_)
  go_simp
  refine hK.out _ _ ?_
  clear hK K
  try simp only [Act.put, List.setIfInBounds_toArray, List.set_cons_zero, List.set_cons_succ]
  refine tailM_step (fun K hK => ?_)
  go_simp
  refine hK.out _ _ ?_
  clear hK K
  refine tailM_nil (NoPanic.normal ?_)
  refine bodyPost_end (v := .tuple #[]) (by simp [results, Try.results95, go_sem]) rfl ⟨rfl, ?_⟩
  rw [unhide HEND]

/-- The heap behind it. -/
theorem swap_own {w : World} {base g n cap : Nat} {e : TypeId} {L : List Hp} (ho : w.ownsRow base e 3 (.slice (some ⟨g, 0, none⟩) n cap) n (hpCells L)) (hl : L.length = n) {i j : Nat} (hi : i < n) (hj : j < n) :
    (swW w g i j (at_ L i) (at_ L j)).ownsRow base e 3 (.slice (some ⟨g, 0, none⟩) n cap) n (hpCells (swapL L i j)) ∧ w.grownBy (swW w g i j (at_ L i) (at_ L j)) (some g) := by
  have s1 := ho.stored (i * 3) (.int .i64 (at_ L j).w)
  have s2 := s1.1.stored (i * 3 + 1) (.slice (at_ L j).co (at_ L j).ss.length (at_ L j).cap)
  have s3 := s2.1.stored (i * 3 + 2) (.int .i64 (at_ L j).c)
  rw [hpCells_set L i (at_ L j) (by omega)] at s3
  have s4 := s3.1.stored (j * 3) (.int .i64 (at_ L i).w)
  have s5 := s4.1.stored (j * 3 + 1) (.slice (at_ L i).co (at_ L i).ss.length (at_ L i).cap)
  have s6 := s5.1.stored (j * 3 + 2) (.int .i64 (at_ L i).c)
  rw [hpCells_set (L.set i (at_ L j)) j (at_ L i) (by simp; omega)] at s6
  exact ⟨s6.1, grown_trans (grown_trans (grown_trans (grown_trans (grown_trans s1.2 s2.2) s3.2) s4.2) s5.2) s6.2⟩

theorem swapL_mem {L : List Hp} {i j : Nat} (hi : i < L.length) (hj : j < L.length) : ∀ x ∈ swapL L i j, x ∈ L := fun _ hx => (swapL_perm L i j hi hj).mem_iff.1 hx

theorem implSwap {B : Bs} {w : World} {hb : Nat} {L : List Hp} {c : Int} {ao : Option Addr} {n cap : Nat} (h : Hx B hb w (.slice ao n cap) L c) (hl : L.length = n) (i j : Nat) (hi : i < n) (hj : j < n) :
    Calls Try.prog 95 #[.slice ao n cap, .int .i64 i, .int .i64 j] w fun e w' => e = .returned (.tuple #[]) ∧ Hx B hb w' (.slice ao n cap) (swapL L i j) c := by
  subst hl
  obtain ⟨g, rfl, hg1, hg2⟩ := own_at h.own (by omega)
  refine (implSwapW g L.length cap L w _ _ h.own rfl i j hi hj).mono ?_
  rintro e w' ⟨rfl, rfl⟩
  obtain ⟨o1, g1⟩ := swap_own h.own rfl hi hj
  generalize swW w g i j (at_ L i) (at_ L j) = W at *
  have g2 : w.grownBy W.drew (some g) := grown_drew g1
  refine ⟨rfl, ?_, ?_, h.ne, ?_, ?_, h.base, fun k o e => ?_⟩
  · rw [swapL_len]; exact o1
  · exact (g2.block hb h.lt (fun e => h.ne e.symm)).trans h.box
  · have hs := h.syms.perm (M := swapL L i j) (swapL_mem hi hj)
    exact ⟨fun x hx => rd_besideP (hs.rd x hx) g2 (fun b off e => (hs.away x hx b off e).1), hs.away, hs.pos⟩
  · exact grown_new h.grown g2 (fun k e => by have := Option.some.inj e; omega)
  · obtain ⟨h1, h2, h3⟩ := h.frame k o e
    exact ⟨(g2.block k (Array.getElem?_eq_some_iff.1 h1).1 (fun e2 => h2 e2.symm)).trans h1, h2, h3⟩

end Go.Proofs.Ytcbaiagkdphkeaa
