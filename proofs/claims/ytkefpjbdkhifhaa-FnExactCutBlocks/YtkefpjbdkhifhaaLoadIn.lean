/-
  A whole row is read, inside of a round.
-/
import Derived.Test.YtkefpjbdkhifhaaRangeOwn
import Derived.Test.YtkefpjbdkhifhaaRowOps
namespace Go.Proofs.Ytkefpjbdkhifhaa
open Go.RowKit Go.Shelf

attribute [local go_sem] Oper.semAt_some

theorem load_rowR {F : Fence} {n : Nat} {P : Program} {ops : Array Oper} {rest : List Oper} {op : Oper} {a : Act} {w : World} {Q : Exit → Act → World → Prop} (hw : Region.wanted op (yielded ops a.tmps) = true) (ty : TypeId) (x : Operand) (ho : op.op = .load ty x)
    (b : Nat) (hx : a.eval x = .pointer (some ⟨b, 0, none⟩)) (X : Array Value) (t : TypeId) (hb : w.heap[b]? = some (.cells X t (0, 0))) (d : TypeDesc)
    (hu : P.underlying ty = some d) (hd : (match d with | .struct _ | .array _ _ => true | _ => false) = true) (hi : (P.info? ty).map (·.size) = some X.size)
    (h : wpListIn F n P ops Q rest (a.put op.dst (.agg X)) w) : wpListIn F n P ops Q (op :: rest) a w :=
  BigFrame.wpListIn_want hw fun K hK => by
    refine ⟨fun f hf => ?_, ?_⟩
    · simp [Oper.about, ho] at hf
    · rw [Oper.semAt_eq _ _ _ (by simp [ho]), exec_row ty x ho b hx X t hb d hu hd hi]
      exact hK _ _ h

/-- An operation whose guard is not met, inside of a round. -/
theorem skip_in {l n : Nat} {P : Program} {ops : Array Oper} {rest : List Oper} {op : Oper} {a : Act} {w : World} {Q : Exit → Act → World → Prop} (hw : Region.wanted op (yielded ops a.tmps) = false) (h : wpListIn (Fence.wide.inRound l) n P ops Q rest (a.put op.dst undef) w) : wpListIn (Fence.wide.inRound l) n P ops Q (op :: rest) a w :=
  wpListIn_step (fun K hK => by rw [hw]; exact ⟨fun _ _ => trivial, hK _ _ h⟩)

end Go.Proofs.Ytkefpjbdkhifhaa
