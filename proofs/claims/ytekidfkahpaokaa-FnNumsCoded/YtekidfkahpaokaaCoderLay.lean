/-
  A byte is laid, in the specification.
-/
import Derived.Test.YtekidfkahpaokaaCoderSpec
namespace Go.Proofs.Ytekidfkahpaokaa
open Go.RowKit

theorem append_by {w : World} {ops : Array Oper} {rest : List Oper} {o : Oper} {a : Act} {Q : Exit → Act → World → Prop} (hgd : o.guard = none) (s x : Operand)
    (ho : o.op = .call { callee := .builtin .append, args := #[s, x], argTypes := #[22, 22] })
    (base : Nat) (v : Value) (O : List Nat) (hs : a.eval s = v) (hown : w.ownsRow base 5 1 v O.length (bCells O)) (t : Nat) (hx : a.eval x = .slice (some ⟨w.heap.size, 0, none⟩) 1 1) (hb : O.length ≤ 2000000) (hbase : base ≤ w.heap.size)
    (hK : ∀ g cap w', w'.ownsRow base 5 1 (.slice (some ⟨g, 0, none⟩) (O.length + 1) cap) (O.length + 1) (bCells (t :: O)) → w.grownBy w' v.ownBlock → (v.ownBlock = some g ∨ w.heap.size ≤ g) → wpList Try.prog ops Q rest (a.put o.dst (.slice (some ⟨g, 0, none⟩) (O.length + 1) cap)) w') :
    wpList Try.prog ops Q (o :: rest) a (w.alloc (.cells #[.int .u8 (t : Int)] 5)) := by
  obtain ⟨i0, hi, hz0, hz1, hz2⟩ := info_parts info_u9
  refine wpList_append_own_at _ hgd s x 22 ho base 5 i0 _ 1 1 Try.underlying22 hi hz0 hz1 hz2 rfl (by decide) v O.length _ hs (hown.alloc _) ⟨w.heap.size, 0, none⟩ 1 1 [.int .u8 (t : Int)] hx rfl (World.news_of_block (cs := #[.int .u8 (t : Int)]) (t := 5) (fr := (0, 0)) (heap_alloc_new w _)) (by intro u hu; simp at hu; subst hu; rfl) (by unfold maxLen; omega) (by omega) (by simp; omega) ?_
  intro v' w' h1 h2 _ h4
  rcases h1.2 with ⟨_, e0⟩ | ⟨g, cap, cur, e1, _⟩
  · omega
  subst e1
  refine hK g cap w' ?_ ?_ ?_
  · rw [bCells_cons]; exact h1
  · exact ⟨h2.os, h2.tape, h2.output, by have h := h2.size; simp at h; omega, fun k hk hr => (h2.block k (by simp; omega) hr).trans (Below.heap_alloc _ _ _ hk)⟩
  · rcases h4 with h4 | h4
    · exact .inl h4.symm
    · have e : g = (w.alloc (.cells #[.int .u8 (t : Int)] 5)).heap.size := Option.some.inj h4
      exact .inr (by simp at e; omega)

theorem carry_run (i : Nat) (r : List Nat) : carryR (List.replicate i 255 ++ r) = List.replicate i 0 ++ carryR r := by
  induction i with
  | zero => simp
  | succ i ih => rw [List.replicate_succ, List.cons_append, carryR, if_pos rfl, ih, List.replicate_succ, List.cons_append]

end Go.Proofs.Ytekidfkahpaokaa
