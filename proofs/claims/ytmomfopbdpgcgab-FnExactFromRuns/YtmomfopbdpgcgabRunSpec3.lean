/-
  The list of items, in the specification.
-/
import Derived.Test.YtmomfopbdpgcgabRunSpec2
import Derived.Test.YtmomfopbdpgcgabBetween
namespace Go.Proofs.Ytmomfopbdpgcgab
open Go.RowKit

/-- What is read through a slice of items. -/
def RdT (w : World) (ao : Option Addr) (n : Nat) (I : List It) : Prop :=
  I.length = n ∧ ∀ i, i < n → ∃ b off, ao = some ⟨b, off, none⟩ ∧ w.cell? ⟨b, off + i * 3, none⟩ = some (.int .i64 (I.getD i (0, 0, 0)).1) ∧ w.cell? ⟨b, off + i * 3 + 1, none⟩ = some (.int .i64 (I.getD i (0, 0, 0)).2.1) ∧ w.cell? ⟨b, off + i * 3 + 2, none⟩ = some (.int .i64 (I.getD i (0, 0, 0)).2.2)
theorem RdT.grown {w w' : World} {ao : Option Addr} {n : Nat} {I : List It} (h : RdT w ao n I) (hg : w.grownBy w' none) : RdT w' ao n I :=
  ⟨h.1, fun i hi => by obtain ⟨b, off, e, h0, h1, h2⟩ := h.2 i hi; exact ⟨b, off, e, hg.cell h0 (by simp), hg.cell h1 (by simp), hg.cell h2 (by simp)⟩⟩
theorem own_rdT {w : World} {base : Nat} {e : TypeId} {ao : Option Addr} {cap : Nat} {I : List It} (h : w.ownsRow base e 3 (.slice ao I.length cap) I.length (itCells I)) : RdT w ao I.length I := by
  refine ⟨rfl, fun i hi => ?_⟩
  obtain ⟨g, rfl, _, _⟩ := own_at h (by omega)
  obtain ⟨h0, h1, h2⟩ := itCells_at I i hi
  have e : I.getD i (0, 0, 0) = I[i] := by simp [hi]
  rw [e]
  refine ⟨g, 0, rfl, ?_, ?_, ?_⟩
  · rw [Nat.zero_add, h.cellAt _ (by omega)]; exact h0
  · rw [Nat.zero_add, h.cellAt _ (by omega)]; exact h1
  · rw [Nat.zero_add, h.cellAt _ (by omega)]; exact h2

theorem putIt_len {n : Nat} {out : List Int} {x : It} (h : out.length ≤ n + 1) : (putIt n out x).length ≤ n + 1 := by
  unfold putIt
  split
  · simp; omega
  · dsimp only
    split
    · rename_i h2
      simp at h2 ⊢; omega
    · simp; omega
theorem take_put {n : Nat} {I : List It} {k : Nat} (hk : k < I.length) : putIts n [] (I.take (k + 1)) = putIt n (putIts n [] (I.take k)) (I.getD k (0, 0, 0)) := by
  rw [List.take_succ_eq_append_getElem hk, putIts_app]
  have e : I.getD k (0, 0, 0) = I[k] := by simp [hk]
  rw [e]
  rfl
def lenV : Value → Nat
  | .slice _ n _ => n
  | _ => 0
theorem info_i3 : (Try.prog.info? 3).map (fun i => (i.zero, i.size, i.bytes)) = some (some (.int .i64 0), 1, 8) := by kernel_rfl

/-- A list of one's own, its block another than g0, which stays as it is. -/
structure OwnX (B : World) (g0 : Nat) (cs : Array Value) (t : TypeId) (w : World) (v : Value) (X : List Int) : Prop where
  own : w.ownsRow B.heap.size 3 1 v X.length (X.map (Value.int .i64))
  box : w.heap[g0]? = some (.cells cs t (0, 0))
  ne : v.ownBlock ≠ some g0
  grown : B.grownBy w none
theorem append_x {w : World} {ops : Array Oper} {rest : List Oper} {o : Oper} {a : Act} {Q : Exit → Act → World → Prop} (hgd : o.guard = none) (s x : Operand)
    (ho : o.op = .call { callee := .builtin .append, args := #[s, x], argTypes := #[24, 24] })
    (B : World) (g0 : Nat) (cs : Array Value) (t : TypeId) (v : Value) (X : List Int) (hs : a.eval s = v) (hown : OwnX B g0 cs t w v X) (z : Int) (hx : a.eval x = .slice (some ⟨w.heap.size, 0, none⟩) 1 1)
    (hb : X.length ≤ 1000)
    (h : ∀ v' w', OwnX B g0 cs t w' v' (X ++ [z]) → wpList Try.prog ops Q rest (a.put o.dst v') w') :
    wpList Try.prog ops Q (o :: rest) a (w.alloc (.cells #[.int .i64 z] 3)) := by
  obtain ⟨i0, hi, hz0, hz1, hz2⟩ := info_parts info_i3
  have hlt := (Array.getElem?_eq_some_iff.1 hown.box).1
  refine wpList_append_own_at _ hgd s x 24 ho B.heap.size 3 i0 (.int .i64 0) 1 8 Try.underlying24 hi hz0 hz1 hz2 rfl (by decide) v X.length _ hs (hown.own.alloc _) ⟨w.heap.size, 0, none⟩ 1 1 [.int .i64 z] hx rfl (cell_one_new _ _ _) (by intro u hu; simp at hu; subst hu; rfl) (by unfold maxLen; omega) (by omega) (by have := hown.grown.size; simp; omega) ?_
  intro v' w' h1 h2 _ h4
  refine h v' w' ⟨by rw [List.map_append, List.length_append]; exact h1, ?_, ?_, grown_new (grown_alloc hown.grown _) h2 (fun g e => (hown.own.lt g e).1)⟩
  · exact (h2.block g0 (by simp; omega) (fun e => hown.ne e.symm)).trans ((Below.heap_alloc _ _ _ hlt).trans hown.box)
  · rcases h4 with h4 | h4
    · rw [h4]; exact hown.ne
    · rw [h4]
      intro e
      have e2 := Option.some.inj e
      simp at e2
      omega

end Go.Proofs.Ytmomfopbdpgcgab
