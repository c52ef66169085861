/-
  Append of bytes that are read, nil or not, behind a row of one's own.
-/
import Derived.Test.YtemfonnkaddmfaaCoderSpec
import Derived.Laws.AppendOwnNone
namespace Go.Proofs.Ytemfonnkaddmfaa
open Go.RowKit

theorem new_cells9 (w : World) (xs : Array Value) (t : TypeId) : ∀ j u, xs.toList[j]? = some u → (w.alloc (.cells xs t)).cell? ((⟨w.heap.size, 0, none⟩ : Addr).add j) = some u := by
  intro j u hj
  have h := heap_alloc_new w (.cells xs t)
  rw [Addr.add_lit, Nat.zero_add, cell_of_row _ _ j _ _ (0, 0) h]
  simpa using hj
theorem rd_news9 {w : World} {x : Addr} {m : Nat} {zs : List Int} (h : Rd .u8 w (some x) m zs) : ∀ j u, (zs.map (Value.int .u8))[j]? = some u → w.cell? (x.add j) = some u := by
  intro j u hj
  have hl := h.1
  have hjl : j < m := by
    have := (List.getElem?_eq_some_iff.1 hj).1
    simp at this; omega
  obtain ⟨b, off, e, hc⟩ := h.2 j hjl
  simp only [Option.some.injEq] at e
  subst e
  rw [Addr.add_lit, hc]
  rw [List.getElem?_map] at hj
  have hj2 : j < zs.length := by omega
  simp [hj2] at hj ⊢
  exact hj

theorem append_rd9 {w : World} {ops : Array Oper} {rest : List Oper} {o : Oper} {a : Act} {Q : Exit → Act → World → Prop} (hgd : o.guard = none) (s x : Operand)
    (ho : o.op = .call { callee := .builtin .append, args := #[s, x], argTypes := #[22, 22] })
    (base : Nat) (v : Value) (n : Nat) (xs : List Value) (hs : a.eval s = v) (hown : w.ownsRow base 5 1 v n xs)
    (dd : Option Addr) (m c : Nat) (zs : List Int) (hx : a.eval x = .slice dd m c) (hr : Rd .u8 w dd m zs) (hnil : dd = none → c = 0)
    (hb : n + m ≤ 1000000) (hbase : base ≤ w.heap.size)
    (h : ∀ v' w', w'.ownsRow base 5 1 v' (n + m) (xs ++ zs.map (Value.int .u8)) → w.grownBy w' v.ownBlock → wpList Try.prog ops Q rest (a.put o.dst v') w') :
    wpList Try.prog ops Q (o :: rest) a w := by
  obtain ⟨i0, hi, hz0, hz1, hz2⟩ := info_parts info_u9
  cases dd with
  | none =>
    have hm : m = 0 := by
      rcases Nat.eq_zero_or_pos m with e | e
      · exact e
      · obtain ⟨b, off, e, _⟩ := hr.2 0 e
        cases e
    subst hm
    have hz : zs = [] := List.length_eq_zero_iff.1 hr.1
    subst hz
    rw [hnil rfl] at hx
    refine wpList_append_own_none hgd s x 22 ho base 5 i0 1 Try.underlying22 hi v n xs hs hown hx (h v w ?_ (World.grownBy.refl _ _))
    simpa using hown
  | some ad =>
    refine wpList_append_own _ hgd s x 22 ho base 5 i0 (.int .u8 0) 1 1 Try.underlying22 hi hz0 hz1 hz2 rfl (by decide) v n xs hs hown ad m c (zs.map (Value.int .u8)) hx (by simp [hr.1]) (rd_news9 hr) ?_ (by unfold maxLen; omega) (by omega) hbase (fun v' w' h1 h2 _ => h v' w' h1 h2)
    intro u hu
    obtain ⟨y, _, rfl⟩ := List.mem_map.1 hu
    rfl

theorem own_nil9 {w : World} {base : Nat} {e : TypeId} {bo : Option Addr} {n c : Nat} {xs : List Value} (h : w.ownsRow base e 1 (.slice bo n c) n xs) : bo = none → c = 0 := by
  intro hn
  rcases h.2 with ⟨hv, _⟩ | ⟨q, _, _, hv, _⟩
  · simp at hv; exact hv.2.2
  · rw [hn] at hv; simp at hv
theorem own_as9 {w : World} {base : Nat} {e : TypeId} {v : Value} {n n' : Nat} {xs xs' : List Value} (h : w.ownsRow base e 1 v n xs) (hn : n = n') (hx : xs = xs') : w.ownsRow base e 1 v n' xs' := by subst hn; subst hx; exact h

end Go.Proofs.Ytemfonnkaddmfaa
