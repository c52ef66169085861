/-
  No cell of these rows narrows 'for every input' (looked for: loops, veiled, ifaces, maps, wideKeys, modest, calm, conditions, laid).
  DERIVED. THE GIVEN ROWS OF THIS SEAT. 4 by the template 'for every input the law returns true; each argument reads behind the call as it read before'; 0 by the template 'total and deterministic' (their statements: YtekidfkahpaokaaTotals.lean).
  GIVEN WITH THE SEED: the statements are not yours to turn. If you find one false, say at which input.
  Laid BY PROGRAM, IN A SANDBOX (cutbox-rows.mjs): the forced cells as the released guide's own fill.sh prints them over the translation 37d06c6bbee78fd0… (all of the seat's roots in one cut). By AI agents, Wed Nov 11 2026. No macro, syntax, notation, axiom, sorry.
-/
import Derived.Test.YtekidfkahpaokaaChecked
import GoSem.Claim
import GoSem.ClaimJoined
import GoSem.ClaimMapViews
import Derived.JoinedTies
import Derived.KernelRfl
namespace Go.Proofs.Ytekidfkahpaokaa
/- THE CELL 'sum', in the pinned program and in every row, IS THE sha256 OF THE DUMP (.gsa) THAT YtekidfkahpaokaaProg.lean LOADS. Nothing in Lean hashes anything: it is a label: what it is worth is what the hold of that sum in a sandbox is worth. -/
noncomputable def Try.pinned : Pinned := { name := "ytekidfkahpaokaa", sum := "37d06c6bbee78fd0f0a85f00fda58abe8a47aaa6be7224fb4985330e268a9826", checked := Try.checked }
namespace Rows
def none {H : Type} : Left H := { results := [], args := [] }

/-- 'laws.FnNumsCoded': WHATEVER THE INPUT: true; the input reads as it did. -/
def fnNumsCodedSpec : ChangeSpec := { name := "fnNumsCoded", fn := fun _ => fun
  | [d] => { results := [.lit (.bool true)], args := [d] }
  | _ => none }
def fnNumsCodedRow : OpenClaim := { program := "ytekidfkahpaokaa", sum := "37d06c6bbee78fd0f0a85f00fda58abe8a47aaa6be7224fb4985330e268a9826", func := "loop.example/g00139/laws.FnNumsCoded", spec := "fnNumsCoded", unfollowed := true, recurses := true, apart := false }
def FnNumsCodedSaid : Prop := fnNumsCodedRow.holds Try.pinned (OpenSpec.ofChange fnNumsCodedSpec)

/-- ITS FALSE NEIGHBOUR: 'it returns false'. Refute it at one input. -/
def fnNumsCodedWrong : ChangeSpec := { name := "fnNumsCoded", fn := fun _ => fun
  | [d] => { results := [.lit (.bool false)], args := [d] }
  | _ => none }
def FnNumsCodedWrongFalsely : Prop := fnNumsCodedRow.holds Try.pinned (OpenSpec.ofChange fnNumsCodedWrong)

/-- 'laws.FnExactBinsOf': WHATEVER THE INPUT: true; the input reads as it did. -/
def fnExactBinsOfSpec : ChangeSpec := { name := "fnExactBinsOf", fn := fun _ => fun
  | [d1, d2] => { results := [.lit (.bool true)], args := [d1, d2] }
  | _ => none }
def fnExactBinsOfRow : OpenClaim := { program := "ytekidfkahpaokaa", sum := "37d06c6bbee78fd0f0a85f00fda58abe8a47aaa6be7224fb4985330e268a9826", func := "loop.example/g00139/laws.FnExactBinsOf", spec := "fnExactBinsOf", unfollowed := true, recurses := true, apart := false }
def FnExactBinsOfSaid : Prop := fnExactBinsOfRow.holds Try.pinned (OpenSpec.ofChange fnExactBinsOfSpec)

/-- ITS FALSE NEIGHBOUR: 'it returns false'. Refute it at one input. -/
def fnExactBinsOfWrong : ChangeSpec := { name := "fnExactBinsOf", fn := fun _ => fun
  | [d1, d2] => { results := [.lit (.bool false)], args := [d1, d2] }
  | _ => none }
def FnExactBinsOfWrongFalsely : Prop := fnExactBinsOfRow.holds Try.pinned (OpenSpec.ofChange fnExactBinsOfWrong)

/-- 'laws.FnExactListBins': WHATEVER THE INPUT: true; the input reads as it did. -/
def fnExactListBinsSpec : ChangeSpec := { name := "fnExactListBins", fn := fun _ => fun
  | [d1, d2] => { results := [.lit (.bool true)], args := [d1, d2] }
  | _ => none }
def fnExactListBinsRow : OpenClaim := { program := "ytekidfkahpaokaa", sum := "37d06c6bbee78fd0f0a85f00fda58abe8a47aaa6be7224fb4985330e268a9826", func := "loop.example/g00139/laws.FnExactListBins", spec := "fnExactListBins", unfollowed := true, recurses := true, apart := false }
def FnExactListBinsSaid : Prop := fnExactListBinsRow.holds Try.pinned (OpenSpec.ofChange fnExactListBinsSpec)

/-- ITS FALSE NEIGHBOUR: 'it returns false'. Refute it at one input. -/
def fnExactListBinsWrong : ChangeSpec := { name := "fnExactListBins", fn := fun _ => fun
  | [d1, d2] => { results := [.lit (.bool false)], args := [d1, d2] }
  | _ => none }
def FnExactListBinsWrongFalsely : Prop := fnExactListBinsRow.holds Try.pinned (OpenSpec.ofChange fnExactListBinsWrong)

/-- 'laws.FnExactReadNums': WHATEVER THE INPUT: true; the input reads as it did. -/
def fnExactReadNumsSpec : ChangeSpec := { name := "fnExactReadNums", fn := fun _ => fun
  | [d1, d2, d3] => { results := [.lit (.bool true)], args := [d1, d2, d3] }
  | _ => none }
def fnExactReadNumsRow : OpenClaim := { program := "ytekidfkahpaokaa", sum := "37d06c6bbee78fd0f0a85f00fda58abe8a47aaa6be7224fb4985330e268a9826", func := "loop.example/g00139/laws.FnExactReadNums", spec := "fnExactReadNums", unfollowed := true, recurses := true, apart := false }
def FnExactReadNumsSaid : Prop := fnExactReadNumsRow.holds Try.pinned (OpenSpec.ofChange fnExactReadNumsSpec)

/-- ITS FALSE NEIGHBOUR: 'it returns false'. Refute it at one input. -/
def fnExactReadNumsWrong : ChangeSpec := { name := "fnExactReadNums", fn := fun _ => fun
  | [d1, d2, d3] => { results := [.lit (.bool false)], args := [d1, d2, d3] }
  | _ => none }
def FnExactReadNumsWrongFalsely : Prop := fnExactReadNumsRow.holds Try.pinned (OpenSpec.ofChange fnExactReadNumsWrong)

/- THE SECOND FORM. 'bulk': how many values and letters a reading holds, each counted each time it is reached (what is shared counts as often as it is met; a slice's spare places count too). A statement '..UptoSaid' is the law's where the arguments, and the package variables that the reading takes, are together of bulk at most 1048576: NARROWER than '..Said'. Prove '..Said' where nothing that the law and all that it calls make is longer than what came in: it says more and counts as full. Else prove '..UptoSaid'. A law counts once. -/
mutual
def uptoBulk {H : Type} : DataW H → Nat
  | .lit (.string bytes) => bytes.length + 1
  | .lit _ => 1
  | .nil => 1
  | .ptr d => uptoBulk d + 1
  | .slice elems spare => uptoBulkAll elems + uptoBulkAll spare + 1
  | .agg parts => uptoBulkAll parts + 1
  | .iface _ d => uptoBulk d + 1
  | .map entries => uptoBulkEntries entries + 1
  | .held _ => 1
def uptoBulkAll {H : Type} : List (DataW H) → Nat
  | [] => 0
  | d :: r => uptoBulk d + uptoBulkAll r
def uptoBulkEntries {H : Type} : List (Lit × DataW H) → Nat
  | [] => 0
  | x :: r => uptoBulkEntry x + uptoBulkEntries r
def uptoBulkEntry {H : Type} : Lit × DataW H → Nat
  | (.string bytes, d) => bytes.length + uptoBulk d + 1
  | (_, d) => uptoBulk d + 1
 end
def uptoSmall : (H : Type) → List (DataW H) → Bool := fun _ ds => decide (uptoBulkAll ds ≤ 1048576)
def OpenSpec.upto (s : _root_.Go.ChangeSpec) : _root_.Go.OpenSpec := { _root_.Go.OpenSpec.ofChange s with cond := some uptoSmall }

/-- 'laws.FnNumsCoded', WHERE WHAT IT READS IS OF BULK AT MOST 1048576: true; the input reads as it did. -/
def fnNumsCodedUptoRow : OpenClaim := { program := "ytekidfkahpaokaa", sum := "37d06c6bbee78fd0f0a85f00fda58abe8a47aaa6be7224fb4985330e268a9826", func := "loop.example/g00139/laws.FnNumsCoded", spec := "fnNumsCoded", unfollowed := true, recurses := true, apart := false, narrowed := true }
def FnNumsCodedUptoSaid : Prop := fnNumsCodedUptoRow.holds Try.pinned (OpenSpec.upto fnNumsCodedSpec)

/-- 'laws.FnExactBinsOf', WHERE WHAT IT READS IS OF BULK AT MOST 1048576: true; the input reads as it did. -/
def fnExactBinsOfUptoRow : OpenClaim := { program := "ytekidfkahpaokaa", sum := "37d06c6bbee78fd0f0a85f00fda58abe8a47aaa6be7224fb4985330e268a9826", func := "loop.example/g00139/laws.FnExactBinsOf", spec := "fnExactBinsOf", unfollowed := true, recurses := true, apart := false, narrowed := true }
def FnExactBinsOfUptoSaid : Prop := fnExactBinsOfUptoRow.holds Try.pinned (OpenSpec.upto fnExactBinsOfSpec)

/-- 'laws.FnExactListBins', WHERE WHAT IT READS IS OF BULK AT MOST 1048576: true; the input reads as it did. -/
def fnExactListBinsUptoRow : OpenClaim := { program := "ytekidfkahpaokaa", sum := "37d06c6bbee78fd0f0a85f00fda58abe8a47aaa6be7224fb4985330e268a9826", func := "loop.example/g00139/laws.FnExactListBins", spec := "fnExactListBins", unfollowed := true, recurses := true, apart := false, narrowed := true }
def FnExactListBinsUptoSaid : Prop := fnExactListBinsUptoRow.holds Try.pinned (OpenSpec.upto fnExactListBinsSpec)

/-- 'laws.FnExactReadNums', WHERE WHAT IT READS IS OF BULK AT MOST 1048576: true; the input reads as it did. -/
def fnExactReadNumsUptoRow : OpenClaim := { program := "ytekidfkahpaokaa", sum := "37d06c6bbee78fd0f0a85f00fda58abe8a47aaa6be7224fb4985330e268a9826", func := "loop.example/g00139/laws.FnExactReadNums", spec := "fnExactReadNums", unfollowed := true, recurses := true, apart := false, narrowed := true }
def FnExactReadNumsUptoSaid : Prop := fnExactReadNumsUptoRow.holds Try.pinned (OpenSpec.upto fnExactReadNumsSpec)

end Rows
end Go.Proofs.Ytekidfkahpaokaa
