/-
  A part of a box, written by one store.
-/
import Derived.Test.YtgknninkfdgebaaFrameImpl3
namespace Go.Proofs.Ytgknninkfdgebaa
open Go.RowKit

theorem wpList_store_part {P : Program} {ops : Array Oper} {rest : List Oper} {op : Oper} {a : Act} {w : World} {Q : Exit → Act → World → Prop} (hw : Region.wanted op (yielded ops a.tmps) = true) (ty : TypeId) (x y : Operand) (ho : op.op = .store ty x y)
    (b o : Nat) (hx : a.eval x = .pointer (some ⟨b, o, none⟩)) (cells : Array Value) (hy : a.eval y = .agg cells) (X : Array Value) (t : TypeId) (hb : w.heap[b]? = some (.cells X t (0, 0))) (hfit : o + cells.size ≤ X.size)
    (hi : (P.info? ty).map (·.size) = some cells.size) (h1 : cells.all (·.oneCell') = true)
    (h : ∀ w', Hid (w'.heap[b]? = some (.cells (X.toList.take o ++ cells.toList ++ X.toList.drop (o + cells.toList.length)).toArray t (0, 0))) → w.grownBy w' (some b) → wpList P ops Q rest (a.put op.dst undef) w') : wpList P ops Q (op :: rest) a w :=
  BigFrame.wpList_want hw fun K hK => by
    have hst := run_storeCells_at P b o t cells.toList 0 X w hb (by simpa using hfit) (fun v hv => (Array.all_eq_true_iff_forall_mem.1 h1) v (by simpa using hv))
    rw [Nat.add_zero] at hst
    have hrun : (storeVar ty ⟨b, o, none⟩ (.agg cells)).run P w = .ok () (w.setRow b (X.toList.take o ++ cells.toList ++ X.toList.drop (o + cells.toList.length)).toArray) := by
      cases hq : P.info? ty with
      | none => simp [hq] at hi
      | some i =>
        have hs : cells.size = i.size := by simp [hq] at hi; omega
        have hst' : (storeCells ⟨b, o, none⟩ cells.toList 0).run P w = .ok () (w.setRow b (X.toList.take o ++ cells.toList ++ X.toList.drop (o + cells.toList.length)).toArray) := hst
        simp only [storeVar, sizeOf, typeInfo, Value.cells, Sem.run_bind, Sem.run_pure, hs]
        simp [hq, hs] at hst' ⊢
        exact hst'
    unfold Oper.wp execOp
    simp only [ho, hx, hy, Instr.storeAt, Instr.sureAddr, Sem.run_bind, Sem.run_pure, Result.andThen_ok, hrun]
    exact hK _ _ (h _ (setRow_heap w b X _ t _ hb) (grown_setRow w b _))

end Go.Proofs.Ytgknninkfdgebaa
