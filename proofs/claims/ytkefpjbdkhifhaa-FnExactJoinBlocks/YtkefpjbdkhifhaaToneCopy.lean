/-
  Copying numbers into a block that is known whole.
-/
import Derived.Test.YtkefpjbdkhifhaaToneRows
namespace Go.Proofs.Ytkefpjbdkhifhaa
open Go.RowKit

theorem wp_copyB {P : Program} {o : Oper} {a : Act} {w : World} {K' : Act → World → Prop} {Q : Exit → Act → World → Prop} (d s : Operand) (dT sT : TypeId)
    (ho : o.op = .call { callee := .builtin .copy, args := #[d, s], argTypes := #[dT, sT] }) (elem : TypeId) (hu : P.underlying dT = some (.slice elem)) (hsz : (P.info? elem).map (·.size) = some 1)
    (g off dLen dCap gs so sLen sCap : Nat) (hd : a.eval d = .slice (some ⟨g, off, none⟩) dLen dCap) (hs : a.eval s = .slice (some ⟨gs, so, none⟩) sLen sCap)
    (K : IntKind) (t : TypeId) (L : List Int) (hB : Blk K t w g L) (S : List Int) (m : Nat) (hm : Nat.min sLen dLen = m) (hS : Rd K w (some ⟨gs, so, none⟩) m S) (hfit : off + m ≤ L.length) (R : List Int) (hR : spliceL L S off = R)
    (h : ∀ w', Blk K t w' g R → w.grownBy w' (some g) → K' (a.put o.dst (.int .i64 m)) w') : Oper.wp P o a w K' Q := by
  refine wp_copyI d s dT sT ho elem hu 1 hsz g off dLen dCap ⟨gs, so, none⟩ sLen sCap hd hs (L.map (Value.int K)).toArray t hB m hm (S.map (Value.int K)) (by rw [List.length_map, hS.1, Nat.mul_one]) ?_ (by simp [hS.1]; exact hfit) (by intro v hv; obtain ⟨z, _, rfl⟩ := List.mem_map.1 hv; rfl) (R.map (Value.int K)) ?_ ?_
  · intro j v hv
    have hj : j < m := by
      have := (List.getElem?_eq_some_iff.1 hv).1
      rw [List.length_map, hS.1] at this
      exact this
    obtain ⟨b, of, e, hc⟩ := hS.2 j hj
    simp only [Option.some.injEq, Addr.mk.injEq, and_true] at e
    obtain ⟨rfl, rfl⟩ := e
    have hz : (S.map (Value.int K))[j]? = some (.int K (S.getD j 0)) := by
      have : j < S.length := by rw [hS.1]; exact hj
      simp [this]
    rw [hz] at hv
    cases hv
    rw [Addr.add_lit]
    exact hc
  · rw [← hR]
    simp [spliceL]
  · intro w' h1 h2
    exact h w' (unhide h1) h2

theorem step_copyB {P : Program} {ops : Array Oper} {o : Oper} {a : Act} {w : World} {K' : Act → World → Prop} {Q : Exit → Act → World → Prop} {E : Prop} (hgd : o.guard = none) (d s : Operand) (dT sT : TypeId)
    (ho : o.op = .call { callee := .builtin .copy, args := #[d, s], argTypes := #[dT, sT] }) (elem : TypeId) (hu : P.underlying dT = some (.slice elem)) (hsz : (P.info? elem).map (·.size) = some 1)
    (g off dLen dCap gs so sLen sCap : Nat) (hd : a.eval d = .slice (some ⟨g, off, none⟩) dLen dCap) (hs : a.eval s = .slice (some ⟨gs, so, none⟩) sLen sCap)
    (K : IntKind) (t : TypeId) (L : List Int) (hB : Blk K t w g L) (S : List Int) (m : Nat) (hm : Nat.min sLen dLen = m) (hS : Rd K w (some ⟨gs, so, none⟩) m S) (hfit : off + m ≤ L.length) (R : List Int) (hR : spliceL L S off = R)
    (h : ∀ w', Blk K t w' g R → w.grownBy w' (some g) → K' (a.put o.dst (.int .i64 m)) w') :
    if Region.wanted o (yielded ops a.tmps) = true then Oper.wp P o a w K' Q else E := by
  have hw : Region.wanted o (yielded ops a.tmps) = true := by simp [Region.wanted, hgd]
  rw [if_pos hw]
  exact wp_copyB d s dT sT ho elem hu hsz g off dLen dCap gs so sLen sCap hd hs K t L hB S m hm hS hfit R hR h

theorem wpList_copyB {P : Program} {ops : Array Oper} {rest : List Oper} {o : Oper} {a : Act} {w : World} {Q : Exit → Act → World → Prop} (hgd : o.guard = none) (d s : Operand) (dT sT : TypeId)
    (ho : o.op = .call { callee := .builtin .copy, args := #[d, s], argTypes := #[dT, sT] }) (elem : TypeId) (hu : P.underlying dT = some (.slice elem)) (hsz : (P.info? elem).map (·.size) = some 1)
    (g off dLen dCap gs so sLen sCap : Nat) (hd : a.eval d = .slice (some ⟨g, off, none⟩) dLen dCap) (hs : a.eval s = .slice (some ⟨gs, so, none⟩) sLen sCap)
    (K : IntKind) (t : TypeId) (L : List Int) (hB : Blk K t w g L) (S : List Int) (m : Nat) (hm : Nat.min sLen dLen = m) (hS : Rd K w (some ⟨gs, so, none⟩) m S) (hfit : off + m ≤ L.length) (R : List Int) (hR : spliceL L S off = R)
    (h : ∀ w', Blk K t w' g R → w.grownBy w' (some g) → wpList P ops Q rest (a.put o.dst (.int .i64 m)) w') : wpList P ops Q (o :: rest) a w :=
  wpList_plain hgd fun _ hK => wp_copyB d s dT sT ho elem hu hsz g off dLen dCap gs so sLen sCap hd hs K t L hB S m hm hS hfit R hR (fun w' h1 h2 => hK _ _ (h w' h1 h2))

end Go.Proofs.Ytkefpjbdkhifhaa
