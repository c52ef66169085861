/-
  The least thing is taken out of the heap, in the program.
-/
import Derived.Test.YtcbaiagkdphkeaaHeapPush
namespace Go.Proofs.Ytcbaiagkdphkeaa
open Go.RowKit

theorem hp_take (L : List Hp) (n : Nat) : (hpCells L).take (n * 3) = hpCells (L.take n) := by
  induction L generalizing n with
  | nil => simp [hpCells]
  | cons p L ih =>
    cases n with
    | zero => simp [hpCells]
    | succ n =>
      have e : (n + 1) * 3 = n * 3 + 1 + 1 + 1 := by omega
      rw [e, List.take_succ_cons]
      simp only [hpCells, List.take_succ_cons, ih]

/-- The last one goes out. -/
theorem Hx.pop {B : Bs} {w w' : World} {hb : Nat} {ao : Option Addr} {n cap : Nat} {L : List Hp} {c : Int} (H : Hx B hb w (.slice ao (n + 1) cap) L c) (hl : L.length = n + 1) (g : w.grownBy w' none) :
    Hx B hb (w'.setCell ⟨hb, 0, none⟩ (.slice ao n cap)) (.slice ao n cap) (L.take n) c := by
  have H2 := H.more g
  have G2 := grown_set w' hb 0 (.slice ao n cap)
  have hlt := H2.lt
  have hown : w'.ownsRow B.W.heap.size 54 3 (.slice ao n cap) (L.take n).length (hpCells (L.take n)) := by
    have hn : (L.take n).length = n := by simp; omega
    rw [hn]
    refine ⟨by rw [hpCells_len, hn], ?_⟩
    rcases H2.own.2 with ⟨h1, h2⟩ | ⟨gg, cp, cur, h1, h2, h3, h4, h5, h6, h7⟩
    · omega
    · simp only [Value.slice.injEq] at h1
      obtain ⟨rfl, _, rfl⟩ := h1
      refine .inr ⟨gg, cap, cur, rfl, h2, h3, by omega, h5, h6, ?_⟩
      rw [← hp_take, ← h7, List.take_take, hl]
      congr 1
      omega
  have hob : (Value.slice ao n cap).ownBlock = (Value.slice ao (n + 1) cap).ownBlock := by cases ao <;> rfl
  refine ⟨?_, ?_, by rw [hob]; exact H2.ne, ?_, ?_, H2.base, fun k o e => ?_⟩
  · exact own_beneath hown G2 (fun k k' h1 h2 => by
      have e2 : hb = k' := Option.some.inj h2
      intro e; exact H2.ne (by rw [e2, ← e, ← hob]; exact h1))
  · exact heap_setCell_same w' hb 0 _ _ _ H2.box
  · have hs := H2.syms.perm (M := L.take n) (fun x hx => List.mem_of_mem_take hx)
    exact ⟨fun x hx => rd_besideP (hs.rd x hx) G2 (fun b off e => by intro e2; exact (hs.away x hx b off e).2 (Option.some.inj e2).symm), by rw [hob]; exact hs.away, hs.pos⟩
  · exact grown_new H2.grown G2 (fun k e => by have := Option.some.inj e; have := H2.base; omega)
  · obtain ⟨h1, h2, h3⟩ := H2.frame k o e
    exact ⟨(G2.block k (Array.getElem?_eq_some_iff.1 h1).1 (fun e2 => h3 (Option.some.inj e2))).trans h1, by rw [hob]; exact h2, h3⟩

set_option maxRecDepth 20000 in
set_option maxHeartbeats 1600000 in
theorem implThingsPop {B : Bs} {w : World} {hb : Nat} {L : List Hp} {c : Int} {v : Value} {n : Nat} (H : Hx B hb w v L c) (hl : L.length = n + 1) (hn : n ≤ 1000) :
    Calls Try.prog 93 #[.pointer (some ⟨hb, 0, none⟩)] w fun e w' => e = .returned (.iface 54 (.agg #[.int .i64 (at_ L n).w, .slice (at_ L n).co (at_ L n).ss.length (at_ L n).cap, .int .i64 (at_ L n).c])) ∧ ∃ v', Hx B hb w' v' (L.take n) c := by
  obtain ⟨ao, cap, rfl⟩ := H.form
  rw [hl] at H
  obtain ⟨c0, _, f0, _⟩ := H.cell
  have hr : RdP w ao (n + 1) L := by
    have h1 := H.own
    rw [← hl] at h1 ⊢
    exact own_rdT h1
  have hown := H.own
  rw [hl] at hown
  obtain ⟨gg, rfl, hg1, hg2⟩ := own_at hown (by omega)
  clear hown
  obtain ⟨bb, off, e, d0, d1, d2⟩ := hr.2 n (by omega)
  simp only [Option.some.injEq, Addr.mk.injEq, and_true] at e
  obtain ⟨rfl, rfl⟩ := e
  have hcap : n + 1 ≤ cap ∧ cap ≤ maxLen := by
    rcases H.own.2 with ⟨h1, _⟩ | ⟨gg, cp, cur, h1, _, _, h4, h5, _⟩
    · simp at h1
    · simp only [Value.slice.injEq] at h1
      obtain ⟨_, _, rfl⟩ := h1
      omega
  unfold maxLen at hcap
  have HFIN : Hid (∀ o, Hx B hb ((w.alloc o).setCell ⟨hb, 0, none⟩ (.slice (some ⟨gg, 0, none⟩) n cap)) (.slice (some ⟨gg, 0, none⟩) n cap) (L.take n) c) := fun o => H.pop hl (World.grownBy_alloc w o none)
  have HB := hide H.lt
  have k0 : ∀ o, (w.alloc o).cell? ⟨hb, 0, none⟩ = some (.slice (some ⟨gg, 0, none⟩) (n + 1) cap) := fun o => (World.grownBy_alloc w o none).cell c0 (by simp)
  have k1 : ∀ o, (w.alloc o).frozen? ⟨hb, 0, none⟩ = false := fun o => frozen_of_row (w.alloc o) hb 0 _ _ (grown_atP (World.grownBy_alloc w o none) H.box)
  have hne : w.heap.size ≠ hb := by have := H.lt; omega
  clear H hr
  generalize at_ L n = x at *
  obtain ⟨xw, xo, xc, xs, xk⟩ := x
  dsimp only at d0 d1 d2 ⊢
  simp only [Nat.zero_add] at d0 d1 d2
  obtain ⟨m, hm⟩ : ∃ m, xs.length = m := ⟨_, rfl⟩
  rw [hm] at d1 ⊢
  have e1 := i64_in (((n + 1 : Nat) : Int) - 1) (by omega)
  have e2 : ((n + 1 : Nat) : Int) - 1 = (n : Int) := by omega
  have e3 := i64_in ((n : Int)) (by omega)
  have h1I : (n : Int) < ((n + 1 : Nat) : Int) := by omega
  have h2I : (n : Int) ≤ (cap : Int) := by omega
  have hcp : ¬ cap = 0 := by omega
  rw [e2] at e1
  go_enter Try.func93, Try.ntmps93
  go_wp2
  go_ret
  exact ⟨rfl, _, unhide HFIN _⟩

end Go.Proofs.Ytcbaiagkdphkeaa
