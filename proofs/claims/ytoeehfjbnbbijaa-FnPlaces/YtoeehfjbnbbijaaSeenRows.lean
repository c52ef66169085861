/-
  Rows of yes and no, one a component: what has been seen.
-/
import Derived.Test.YtoeehfjbnbbijaaOrdPure
import Derived.Maps.AppendAt
import Derived.Deep.AppendLies
namespace Go.Proofs.Ytoeehfjbnbbijaa
open Go.RowKit

theorem info_bool : (Try.prog.info? 4).map (fun i => (i.zero, i.size, i.bytes)) = some (some (.bool false), 1, 1) := by kernel_rfl
theorem info_bools : (Try.prog.info? 55).map (fun i => (i.zero, i.size, i.bytes)) = some (some (.slice none 0 0), 1, 24) := by kernel_rfl

/-- A component's row lies at its block. -/
def rowV (gs : List Nat) (M : Nat → Nat) (j : Nat) : Value := .slice (some ⟨gs.getD j 0, 0, none⟩) (M j) (M j)
/-- A row of rows of yes and no, all the call's own, from base on: the blocks gs, rising; M is how long they are, K what lies in them. -/
structure Seen (w : World) (base : Nat) (v : Value) (gs : List Nat) (M : Nat → Nat) (K : Nat → List Value) : Prop where
  outer : ∃ vs, w.ownsRow base 55 1 v gs.length vs ∧ ∀ j, j < gs.length → vs[j]? = some (rowV gs M j)
  inner : ∀ j, j < gs.length → w.ownsRow base 4 1 (rowV gs M j) (M j) (K j)
  apart : ∀ j, j < gs.length → v.ownBlock ≠ some (gs.getD j 0)
  rise : ∀ i j, i < j → j < gs.length → gs.getD i 0 < gs.getD j 0

section
variable {w w' : World} {base : Nat} {v : Value} {gs : List Nat} {M : Nat → Nat} {K K' : Nat → List Value}
theorem Seen.grown (h : Seen w base v gs M K) (hg : w.grownBy w' none) : Seen w' base v gs M K := by
  obtain ⟨vs, h1, h2⟩ := h.outer
  exact ⟨⟨vs, own_grown h1 hg, h2⟩, fun j hj => own_grown (h.inner j hj) hg, h.apart, h.rise⟩
theorem Seen.congr (h : Seen w base v gs M K) (e : ∀ j, j < gs.length → K' j = K j) : Seen w base v gs M K' :=
  ⟨h.outer, fun j hj => by rw [e j hj]; exact h.inner j hj, h.apart, h.rise⟩
theorem rowV_block (gs : List Nat) (M : Nat → Nat) (j : Nat) : (rowV gs M j).ownBlock = some (gs.getD j 0) := rfl
theorem Seen.ge (h : Seen w base v gs M K) (j : Nat) (hj : j < gs.length) : base ≤ gs.getD j 0 ∧ gs.getD j 0 < w.heap.size := (h.inner j hj).lt _ (rowV_block gs M j)
theorem Seen.shape (h : Seen w base v gs M K) : ∃ so sc, v = .slice so gs.length sc := by
  obtain ⟨vs, h1, _⟩ := h.outer
  exact own_form h1
/-- Where the row of rows lies. -/
theorem Seen.form (h : Seen w base v gs M K) (h0 : 0 < gs.length) : ∃ sb cap, v = .slice (some ⟨sb, 0, none⟩) gs.length cap := by
  obtain ⟨vs, h1, _⟩ := h.outer
  obtain ⟨so, sc, rfl⟩ := own_form h1
  obtain ⟨g, rfl, _, _⟩ := own_at h1 h0
  exact ⟨g, sc, rfl⟩
theorem Seen.cell {sb cap : Nat} (h : Seen w base (.slice (some ⟨sb, 0, none⟩) gs.length cap) gs M K) (j : Nat) (hj : j < gs.length) : w.cell? ⟨sb, j, none⟩ = some (rowV gs M j) := by
  obtain ⟨vs, h1, h2⟩ := h.outer
  rw [h1.cellAt j (by omega)]
  exact h2 j hj
theorem Seen.at (h : Seen w base v gs M K) (j : Nat) (hj : j < gs.length) (q : Nat) (hq : q < M j) : w.cell? ⟨gs.getD j 0, q, none⟩ = (K j)[q]? := (h.inner j hj).cellAt q (by omega)
theorem Seen.free (h : Seen w base v gs M K) (j : Nat) (hj : j < gs.length) (q : Nat) : w.frozen? ⟨gs.getD j 0, q, none⟩ = false := (h.inner j hj).frozenAt q
theorem Seen.set (h : Seen w base v gs M K) (c : Nat) (hc : c < gs.length) (q : Nat) (hK : K' c = (K c).set q (.bool true)) (hK2 : ∀ j, j < gs.length → j ≠ c → K' j = K j) :
    Seen (w.setCell ⟨gs.getD c 0, q, none⟩ (.bool true)) base v gs M K' ∧ w.grownBy (w.setCell ⟨gs.getD c 0, q, none⟩ (.bool true)) (some (gs.getD c 0)) := by
  have st := (h.inner c hc).stored q (.bool true)
  obtain ⟨vs, h1, h2⟩ := h.outer
  refine ⟨⟨⟨vs, own_beneath h1 st.2 (fun g g' e e' => ?_), h2⟩, fun j hj => ?_, h.apart, h.rise⟩, st.2⟩
  · intro e2; subst e2
    have e3 : gs.getD c 0 = g := by simpa using e'
    rw [← e3] at e
    exact h.apart c hc e
  · by_cases e : j = c
    · subst e; rw [hK]; exact st.1
    · rw [hK2 j hj e]
      refine own_beneath (h.inner j hj) st.2 (fun g g' e1 e2 => ?_)
      rw [rowV_block] at e1
      simp only [Option.some.injEq] at e1 e2
      subst e1 e2
      rcases Nat.lt_trichotomy j c with hx | hx | hx
      · have := h.rise j c hx hc; omega
      · exact absurd hx e
      · have := h.rise c j hx hj; omega
theorem Seen.nil (w : World) : Seen (w.alloc (.cells #[] 55)) w.heap.size (.slice (some ⟨w.heap.size, 0, none⟩) 0 0) [] M K :=
  ⟨⟨[], World.ownsRow_lit w #[] 0 (Nat.le_refl _) (by unfold maxLen; omega) rfl, fun j hj => absurd hj (by simp)⟩, fun j hj => absurd hj (by simp), fun j hj => absurd hj (by simp), fun i j _ hj => absurd hj (by simp)⟩
end

theorem getD_left {gs : List Nat} {g j : Nat} (h : j < gs.length) : (gs ++ [g]).getD j 0 = gs.getD j 0 := by
  simp [List.getD_eq_getElem?_getD, List.getElem?_append_left h]
theorem getD_last (gs : List Nat) (g : Nat) : (gs ++ [g]).getD gs.length 0 = g := by
  simp [List.getD_eq_getElem?_getD]

theorem append_seen {w : World} {ops : Array Oper} {rest : List Oper} {o : Oper} {a : Act} {Q : Exit → Act → World → Prop} (hgd : o.guard = none) (s x : Operand)
    (ho : o.op = .call { callee := .builtin .append, args := #[s, x], argTypes := #[52, 52] })
    (B : World) (v : Value) (gs : List Nat) (M : Nat → Nat) (K : Nat → List Value) (g : Nat) (hs : a.eval s = v) (hown : Seen w B.heap.size v gs M K) (hx : a.eval x = .slice (some ⟨w.heap.size, 0, none⟩) 1 1)
    (hu : w.ownsRow B.heap.size 4 1 (.slice (some ⟨g, 0, none⟩) (M gs.length) (M gs.length)) (M gs.length) (K gs.length)) (hnew : ∀ j, j < gs.length → gs.getD j 0 < g) (hne : v.ownBlock ≠ some g)
    (hb : gs.length ≤ 1000) (hB : B.grownBy w none)
    (h : ∀ v' w', Seen w' B.heap.size v' (gs ++ [g]) M K → B.grownBy w' none → wpList Try.prog ops Q rest (a.put o.dst v') w') :
    wpList Try.prog ops Q (o :: rest) a (w.alloc (.cells #[.slice (some ⟨g, 0, none⟩) (M gs.length) (M gs.length)] 55)) := by
  obtain ⟨i0, hi, hz0, hz1, hz2⟩ := info_parts info_bools
  obtain ⟨vs, h1, h2⟩ := hown.outer
  have hvl : vs.length = gs.length := by have := h1.1; simpa using this
  refine wpList_append_own_at _ hgd s x 52 ho B.heap.size 55 i0 (.slice none 0 0) 1 24 Try.underlying52 hi hz0 hz1 hz2 rfl (by decide) v gs.length vs hs (h1.alloc _) ⟨w.heap.size, 0, none⟩ 1 1 [.slice (some ⟨g, 0, none⟩) (M gs.length) (M gs.length)] hx rfl (cell_one_new _ _ _) (by intro u hu; simp at hu; subst hu; rfl) (by unfold maxLen; omega) (by omega) (by have := hB.size; simp; omega) ?_
  intro v' w' h3 h4 _ h5
  have hlen : (gs ++ [g]).length = gs.length + 1 := by simp
  have hg4 : g < w.heap.size := (hu.lt g rfl).2
  have hin : ∀ j, j < gs.length → rowV (gs ++ [g]) M j = rowV gs M j := fun j hj => by rw [rowV, rowV, getD_left hj]
  have hla : rowV (gs ++ [g]) M gs.length = .slice (some ⟨g, 0, none⟩) (M gs.length) (M gs.length) := by rw [rowV, getD_last]
  refine h v' w' ⟨⟨vs ++ [.slice (some ⟨g, 0, none⟩) (M gs.length) (M gs.length)], by rw [hlen]; exact h3, fun j hj => ?_⟩, fun j hj => ?_, fun j hj => ?_, fun i j hij hj => ?_⟩ (grown_new (grown_alloc hB _) h4 (fun g e => (h1.lt g e).1))
  · by_cases e : j < gs.length
    · rw [List.getElem?_append_left (by omega), h2 j e, hin j e]
    · obtain rfl : j = gs.length := by omega
      rw [List.getElem?_append_right (by omega), hvl, hla]; simp
  · by_cases e : j < gs.length
    · rw [hin j e]
      refine own_beneath ((hown.inner j e).alloc _) h4 (fun g' g2 e1 e2 e3 => ?_)
      rw [rowV_block] at e1
      subst e3
      rw [← e1] at e2
      exact hown.apart j e e2
    · obtain rfl : j = gs.length := by omega
      rw [hla]
      refine own_beneath (hu.alloc _) h4 (fun g' g2 e1 e2 e3 => ?_)
      simp only [Value.ownBlock, Option.some.injEq] at e1
      subst e1 e3
      exact hne e2
  · by_cases e : j < gs.length
    · rw [getD_left e]
      rcases h5 with h5 | h5
      · rw [h5]; exact hown.apart j e
      · have hh := hown.ge j e
        have hz : (w.alloc (.cells #[.slice (some ⟨g, 0, none⟩) (M gs.length) (M gs.length)] 55)).heap.size = w.heap.size + 1 := by simp
        rw [h5]
        intro e2
        have e3 := Option.some.inj e2
        omega
    · obtain rfl : j = gs.length := by omega
      rw [getD_last]
      rcases h5 with h5 | h5
      · rw [h5]; exact hne
      · rw [h5]; simp; omega
  · by_cases e : j < gs.length
    · rw [getD_left e, getD_left (by omega)]; exact hown.rise i j hij e
    · obtain rfl : j = gs.length := by omega
      rw [getD_last, getD_left hij]; exact hnew i hij

end Go.Proofs.Ytoeehfjbnbbijaa
