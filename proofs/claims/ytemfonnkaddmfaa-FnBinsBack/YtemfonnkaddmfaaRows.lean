/-
  No cell of these rows narrows 'for every input' (looked for: loops, veiled, ifaces, maps, wideKeys, modest, calm, conditions, laid).
  DERIVED. THE GIVEN ROWS OF THIS SEAT. 4 by the template 'for every input the law returns true; each argument reads behind the call as it read before'; 0 by the template 'total and deterministic' (their statements: YtemfonnkaddmfaaTotals.lean).
  GIVEN WITH THE SEED: the statements are not yours to turn. If you find one false, say at which input.
  Laid BY PROGRAM, IN A SANDBOX (cutbox-rows.mjs): the forced cells as the released guide's own fill.sh prints them over the translation fee3dd7d4c297f1f… (all of the seat's roots in one cut). By AI agents, Wed Nov 11 2026. No macro, syntax, notation, axiom, sorry.
-/
import Derived.Test.YtemfonnkaddmfaaChecked
import GoSem.Claim
import GoSem.ClaimJoined
import GoSem.ClaimMapViews
import Derived.JoinedTies
import Derived.KernelRfl
namespace Go.Proofs.Ytemfonnkaddmfaa
/- THE CELL 'sum', in the pinned program and in every row, IS THE sha256 OF THE DUMP (.gsa) THAT YtemfonnkaddmfaaProg.lean LOADS. Nothing in Lean hashes anything: it is a label: what it is worth is what the hold of that sum in a sandbox is worth. -/
noncomputable def Try.pinned : Pinned := { name := "ytemfonnkaddmfaa", sum := "fee3dd7d4c297f1f203091f3f26cd53423d963f94c0cb27177a66d61957e0797", checked := Try.checked }
namespace Rows
def none {H : Type} : Left H := { results := [], args := [] }

/-- 'laws.FnBinsBack': WHATEVER THE INPUT: true; the input reads as it did. -/
def fnBinsBackSpec : ChangeSpec := { name := "fnBinsBack", fn := fun _ => fun
  | [d] => { results := [.lit (.bool true)], args := [d] }
  | _ => none }
def fnBinsBackRow : OpenClaim := { program := "ytemfonnkaddmfaa", sum := "fee3dd7d4c297f1f203091f3f26cd53423d963f94c0cb27177a66d61957e0797", func := "loop.example/g00139/laws.FnBinsBack", spec := "fnBinsBack", apart := false }
def FnBinsBackSaid : Prop := fnBinsBackRow.holds Try.pinned (OpenSpec.ofChange fnBinsBackSpec)

/-- ITS FALSE NEIGHBOUR: 'it returns false'. Refute it at one input. -/
def fnBinsBackWrong : ChangeSpec := { name := "fnBinsBack", fn := fun _ => fun
  | [d] => { results := [.lit (.bool false)], args := [d] }
  | _ => none }
def FnBinsBackWrongFalsely : Prop := fnBinsBackRow.holds Try.pinned (OpenSpec.ofChange fnBinsBackWrong)

/-- 'laws.FnCheap': WHATEVER THE INPUT: true; the input reads as it did. -/
def fnCheapSpec : ChangeSpec := { name := "fnCheap", fn := fun _ => fun
  | [d] => { results := [.lit (.bool true)], args := [d] }
  | _ => none }
def fnCheapRow : OpenClaim := { program := "ytemfonnkaddmfaa", sum := "fee3dd7d4c297f1f203091f3f26cd53423d963f94c0cb27177a66d61957e0797", func := "loop.example/g00139/laws.FnCheap", spec := "fnCheap", apart := false }
def FnCheapSaid : Prop := fnCheapRow.holds Try.pinned (OpenSpec.ofChange fnCheapSpec)

/-- ITS FALSE NEIGHBOUR: 'it returns false'. Refute it at one input. -/
def fnCheapWrong : ChangeSpec := { name := "fnCheap", fn := fun _ => fun
  | [d] => { results := [.lit (.bool false)], args := [d] }
  | _ => none }
def FnCheapWrongFalsely : Prop := fnCheapRow.holds Try.pinned (OpenSpec.ofChange fnCheapWrong)

/-- 'laws.FnExactEncodeBins': WHATEVER THE INPUT: true; the input reads as it did. -/
def fnExactEncodeBinsSpec : ChangeSpec := { name := "fnExactEncodeBins", fn := fun _ => fun
  | [d] => { results := [.lit (.bool true)], args := [d] }
  | _ => none }
def fnExactEncodeBinsRow : OpenClaim := { program := "ytemfonnkaddmfaa", sum := "fee3dd7d4c297f1f203091f3f26cd53423d963f94c0cb27177a66d61957e0797", func := "loop.example/g00139/laws.FnExactEncodeBins", spec := "fnExactEncodeBins", apart := false }
def FnExactEncodeBinsSaid : Prop := fnExactEncodeBinsRow.holds Try.pinned (OpenSpec.ofChange fnExactEncodeBinsSpec)

/-- ITS FALSE NEIGHBOUR: 'it returns false'. Refute it at one input. -/
def fnExactEncodeBinsWrong : ChangeSpec := { name := "fnExactEncodeBins", fn := fun _ => fun
  | [d] => { results := [.lit (.bool false)], args := [d] }
  | _ => none }
def FnExactEncodeBinsWrongFalsely : Prop := fnExactEncodeBinsRow.holds Try.pinned (OpenSpec.ofChange fnExactEncodeBinsWrong)

/-- 'laws.FnExactDecodeBins': WHATEVER THE INPUT: true; the input reads as it did. -/
def fnExactDecodeBinsSpec : ChangeSpec := { name := "fnExactDecodeBins", fn := fun _ => fun
  | [d1, d2] => { results := [.lit (.bool true)], args := [d1, d2] }
  | _ => none }
def fnExactDecodeBinsRow : OpenClaim := { program := "ytemfonnkaddmfaa", sum := "fee3dd7d4c297f1f203091f3f26cd53423d963f94c0cb27177a66d61957e0797", func := "loop.example/g00139/laws.FnExactDecodeBins", spec := "fnExactDecodeBins", apart := false }
def FnExactDecodeBinsSaid : Prop := fnExactDecodeBinsRow.holds Try.pinned (OpenSpec.ofChange fnExactDecodeBinsSpec)

/-- ITS FALSE NEIGHBOUR: 'it returns false'. Refute it at one input. -/
def fnExactDecodeBinsWrong : ChangeSpec := { name := "fnExactDecodeBins", fn := fun _ => fun
  | [d1, d2] => { results := [.lit (.bool false)], args := [d1, d2] }
  | _ => none }
def FnExactDecodeBinsWrongFalsely : Prop := fnExactDecodeBinsRow.holds Try.pinned (OpenSpec.ofChange fnExactDecodeBinsWrong)

/- THE SECOND FORM. 'bulk': how many values and letters a reading holds, each counted each time it is reached (what is shared counts as often as it is met; a slice's spare places count too). A statement '..UptoSaid' is the law's where the arguments, and the package variables that the reading takes, are together of bulk at most 1048576: NARROWER than '..Said'. Prove '..Said' where nothing that the law and all that it calls make is longer than what came in: it says more and counts as full. Else prove '..UptoSaid'. A law counts once. -/
mutual
def uptoBulk {H : Type} : DataW H → Nat
  | .lit (.string bytes) => bytes.length + 1
  | .lit _ => 1
  | .nil => 1
  | .ptr d => uptoBulk d + 1
  | .slice elems spare => uptoBulkAll elems + uptoBulkAll spare + 1
  | .agg parts => uptoBulkAll parts + 1
  | .iface _ d => uptoBulk d + 1
  | .map entries => uptoBulkEntries entries + 1
  | .held _ => 1
def uptoBulkAll {H : Type} : List (DataW H) → Nat
  | [] => 0
  | d :: r => uptoBulk d + uptoBulkAll r
def uptoBulkEntries {H : Type} : List (Lit × DataW H) → Nat
  | [] => 0
  | x :: r => uptoBulkEntry x + uptoBulkEntries r
def uptoBulkEntry {H : Type} : Lit × DataW H → Nat
  | (.string bytes, d) => bytes.length + uptoBulk d + 1
  | (_, d) => uptoBulk d + 1
 end
def uptoSmall : (H : Type) → List (DataW H) → Bool := fun _ ds => decide (uptoBulkAll ds ≤ 1048576)
def OpenSpec.upto (s : _root_.Go.ChangeSpec) : _root_.Go.OpenSpec := { _root_.Go.OpenSpec.ofChange s with cond := some uptoSmall }

/-- 'laws.FnBinsBack', WHERE WHAT IT READS IS OF BULK AT MOST 1048576: true; the input reads as it did. -/
def fnBinsBackUptoRow : OpenClaim := { program := "ytemfonnkaddmfaa", sum := "fee3dd7d4c297f1f203091f3f26cd53423d963f94c0cb27177a66d61957e0797", func := "loop.example/g00139/laws.FnBinsBack", spec := "fnBinsBack", apart := false, narrowed := true }
def FnBinsBackUptoSaid : Prop := fnBinsBackUptoRow.holds Try.pinned (OpenSpec.upto fnBinsBackSpec)

/-- 'laws.FnCheap', WHERE WHAT IT READS IS OF BULK AT MOST 1048576: true; the input reads as it did. -/
def fnCheapUptoRow : OpenClaim := { program := "ytemfonnkaddmfaa", sum := "fee3dd7d4c297f1f203091f3f26cd53423d963f94c0cb27177a66d61957e0797", func := "loop.example/g00139/laws.FnCheap", spec := "fnCheap", apart := false, narrowed := true }
def FnCheapUptoSaid : Prop := fnCheapUptoRow.holds Try.pinned (OpenSpec.upto fnCheapSpec)

/-- 'laws.FnExactEncodeBins', WHERE WHAT IT READS IS OF BULK AT MOST 1048576: true; the input reads as it did. -/
def fnExactEncodeBinsUptoRow : OpenClaim := { program := "ytemfonnkaddmfaa", sum := "fee3dd7d4c297f1f203091f3f26cd53423d963f94c0cb27177a66d61957e0797", func := "loop.example/g00139/laws.FnExactEncodeBins", spec := "fnExactEncodeBins", apart := false, narrowed := true }
def FnExactEncodeBinsUptoSaid : Prop := fnExactEncodeBinsUptoRow.holds Try.pinned (OpenSpec.upto fnExactEncodeBinsSpec)

/-- 'laws.FnExactDecodeBins', WHERE WHAT IT READS IS OF BULK AT MOST 1048576: true; the input reads as it did. -/
def fnExactDecodeBinsUptoRow : OpenClaim := { program := "ytemfonnkaddmfaa", sum := "fee3dd7d4c297f1f203091f3f26cd53423d963f94c0cb27177a66d61957e0797", func := "loop.example/g00139/laws.FnExactDecodeBins", spec := "fnExactDecodeBins", apart := false, narrowed := true }
def FnExactDecodeBinsUptoSaid : Prop := fnExactDecodeBinsUptoRow.holds Try.pinned (OpenSpec.upto fnExactDecodeBinsSpec)

end Rows
end Go.Proofs.Ytemfonnkaddmfaa
