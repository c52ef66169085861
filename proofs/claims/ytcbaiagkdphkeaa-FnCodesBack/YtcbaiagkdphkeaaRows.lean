/-
  No cell of these rows narrows 'for every input' (looked for: loops, veiled, ifaces, maps, wideKeys, modest, calm, conditions, laid).
  DERIVED. THE GIVEN ROWS OF THIS SEAT. 6 by the template 'for every input the law returns true; each argument reads behind the call as it read before'; 0 by the template 'total and deterministic' (their statements: YtcbaiagkdphkeaaTotals.lean).
  GIVEN WITH THE SEED: the statements are not yours to turn. If you find one false, say at which input.
  Laid BY PROGRAM, IN A SANDBOX (cutbox-rows.mjs): the forced cells as the released guide's own fill.sh prints them over the translation 876e17db7de649b5… (all of the seat's roots in one cut). By AI agents, Wed Nov 11 2026. No macro, syntax, notation, axiom, sorry.
-/
import Derived.Test.YtcbaiagkdphkeaaChecked
import GoSem.Claim
import GoSem.ClaimJoined
import GoSem.ClaimMapViews
import Derived.JoinedTies
import Derived.KernelRfl
namespace Go.Proofs.Ytcbaiagkdphkeaa
/- THE CELL 'sum', in the pinned program and in every row, IS THE sha256 OF THE DUMP (.gsa) THAT YtcbaiagkdphkeaaProg.lean LOADS. Nothing in Lean hashes anything: it is a label: what it is worth is what the hold of that sum in a sandbox is worth. -/
noncomputable def Try.pinned : Pinned := { name := "ytcbaiagkdphkeaa", sum := "876e17db7de649b5f4fe258d4de46ad871e120d3fa1db29028aa8e49c58e120d", checked := Try.checked }
namespace Rows
def none {H : Type} : Left H := { results := [], args := [] }

/-- 'laws.FnPrefix': WHATEVER THE INPUT: true; the input reads as it did. -/
def fnPrefixSpec : ChangeSpec := { name := "fnPrefix", fn := fun _ => fun
  | [d] => { results := [.lit (.bool true)], args := [d] }
  | _ => none }
def fnPrefixRow : OpenClaim := { program := "ytcbaiagkdphkeaa", sum := "876e17db7de649b5f4fe258d4de46ad871e120d3fa1db29028aa8e49c58e120d", func := "loop.example/g00139/laws.FnPrefix", spec := "fnPrefix", plainKeys := false, apart := false }
def FnPrefixSaid : Prop := fnPrefixRow.holds Try.pinned (OpenSpec.ofChange fnPrefixSpec)

/-- ITS FALSE NEIGHBOUR: 'it returns false'. Refute it at one input. -/
def fnPrefixWrong : ChangeSpec := { name := "fnPrefix", fn := fun _ => fun
  | [d] => { results := [.lit (.bool false)], args := [d] }
  | _ => none }
def FnPrefixWrongFalsely : Prop := fnPrefixRow.holds Try.pinned (OpenSpec.ofChange fnPrefixWrong)

/-- 'laws.FnBest': WHATEVER THE INPUT: true; the input reads as it did. -/
def fnBestSpec : ChangeSpec := { name := "fnBest", fn := fun _ => fun
  | [d1, d2] => { results := [.lit (.bool true)], args := [d1, d2] }
  | _ => none }
def fnBestRow : OpenClaim := { program := "ytcbaiagkdphkeaa", sum := "876e17db7de649b5f4fe258d4de46ad871e120d3fa1db29028aa8e49c58e120d", func := "loop.example/g00139/laws.FnBest", spec := "fnBest", unfollowed := true, recurses := true, plainKeys := false, apart := false }
def FnBestSaid : Prop := fnBestRow.holds Try.pinned (OpenSpec.ofChange fnBestSpec)

/-- ITS FALSE NEIGHBOUR: 'it returns false'. Refute it at one input. -/
def fnBestWrong : ChangeSpec := { name := "fnBest", fn := fun _ => fun
  | [d1, d2] => { results := [.lit (.bool false)], args := [d1, d2] }
  | _ => none }
def FnBestWrongFalsely : Prop := fnBestRow.holds Try.pinned (OpenSpec.ofChange fnBestWrong)

/-- 'laws.FnCodesBack': WHATEVER THE INPUT: true; the input reads as it did. -/
def fnCodesBackSpec : ChangeSpec := { name := "fnCodesBack", fn := fun _ => fun
  | [d] => { results := [.lit (.bool true)], args := [d] }
  | _ => none }
def fnCodesBackRow : OpenClaim := { program := "ytcbaiagkdphkeaa", sum := "876e17db7de649b5f4fe258d4de46ad871e120d3fa1db29028aa8e49c58e120d", func := "loop.example/g00139/laws.FnCodesBack", spec := "fnCodesBack", unfollowed := true, recurses := true, plainKeys := false, apart := false }
def FnCodesBackSaid : Prop := fnCodesBackRow.holds Try.pinned (OpenSpec.ofChange fnCodesBackSpec)

/-- ITS FALSE NEIGHBOUR: 'it returns false'. Refute it at one input. -/
def fnCodesBackWrong : ChangeSpec := { name := "fnCodesBack", fn := fun _ => fun
  | [d] => { results := [.lit (.bool false)], args := [d] }
  | _ => none }
def FnCodesBackWrongFalsely : Prop := fnCodesBackRow.holds Try.pinned (OpenSpec.ofChange fnCodesBackWrong)

/-- 'laws.FnExactLensOk': WHATEVER THE INPUT: true; the input reads as it did. -/
def fnExactLensOkSpec : ChangeSpec := { name := "fnExactLensOk", fn := fun _ => fun
  | [d] => { results := [.lit (.bool true)], args := [d] }
  | _ => none }
def fnExactLensOkRow : OpenClaim := { program := "ytcbaiagkdphkeaa", sum := "876e17db7de649b5f4fe258d4de46ad871e120d3fa1db29028aa8e49c58e120d", func := "loop.example/g00139/laws.FnExactLensOk", spec := "fnExactLensOk", plainKeys := false, apart := false }
def FnExactLensOkSaid : Prop := fnExactLensOkRow.holds Try.pinned (OpenSpec.ofChange fnExactLensOkSpec)

/-- ITS FALSE NEIGHBOUR: 'it returns false'. Refute it at one input. -/
def fnExactLensOkWrong : ChangeSpec := { name := "fnExactLensOk", fn := fun _ => fun
  | [d] => { results := [.lit (.bool false)], args := [d] }
  | _ => none }
def FnExactLensOkWrongFalsely : Prop := fnExactLensOkRow.holds Try.pinned (OpenSpec.ofChange fnExactLensOkWrong)

/-- 'laws.FnExactCodesOf': WHATEVER THE INPUT: true; the input reads as it did. -/
def fnExactCodesOfSpec : ChangeSpec := { name := "fnExactCodesOf", fn := fun _ => fun
  | [d] => { results := [.lit (.bool true)], args := [d] }
  | _ => none }
def fnExactCodesOfRow : OpenClaim := { program := "ytcbaiagkdphkeaa", sum := "876e17db7de649b5f4fe258d4de46ad871e120d3fa1db29028aa8e49c58e120d", func := "loop.example/g00139/laws.FnExactCodesOf", spec := "fnExactCodesOf", plainKeys := false, apart := false }
def FnExactCodesOfSaid : Prop := fnExactCodesOfRow.holds Try.pinned (OpenSpec.ofChange fnExactCodesOfSpec)

/-- ITS FALSE NEIGHBOUR: 'it returns false'. Refute it at one input. -/
def fnExactCodesOfWrong : ChangeSpec := { name := "fnExactCodesOf", fn := fun _ => fun
  | [d] => { results := [.lit (.bool false)], args := [d] }
  | _ => none }
def FnExactCodesOfWrongFalsely : Prop := fnExactCodesOfRow.holds Try.pinned (OpenSpec.ofChange fnExactCodesOfWrong)

/-- 'laws.FnExactBestLens': WHATEVER THE INPUT: true; the input reads as it did. -/
def fnExactBestLensSpec : ChangeSpec := { name := "fnExactBestLens", fn := fun _ => fun
  | [d] => { results := [.lit (.bool true)], args := [d] }
  | _ => none }
def fnExactBestLensRow : OpenClaim := { program := "ytcbaiagkdphkeaa", sum := "876e17db7de649b5f4fe258d4de46ad871e120d3fa1db29028aa8e49c58e120d", func := "loop.example/g00139/laws.FnExactBestLens", spec := "fnExactBestLens", unfollowed := true, recurses := true, plainKeys := false, apart := false }
def FnExactBestLensSaid : Prop := fnExactBestLensRow.holds Try.pinned (OpenSpec.ofChange fnExactBestLensSpec)

/-- ITS FALSE NEIGHBOUR: 'it returns false'. Refute it at one input. -/
def fnExactBestLensWrong : ChangeSpec := { name := "fnExactBestLens", fn := fun _ => fun
  | [d] => { results := [.lit (.bool false)], args := [d] }
  | _ => none }
def FnExactBestLensWrongFalsely : Prop := fnExactBestLensRow.holds Try.pinned (OpenSpec.ofChange fnExactBestLensWrong)

/- THE SECOND FORM. 'bulk': how many values and letters a reading holds, each counted each time it is reached (what is shared counts as often as it is met; a slice's spare places count too). A statement '..UptoSaid' is the law's where the arguments, and the package variables that the reading takes, are together of bulk at most 1048576: NARROWER than '..Said'. Prove '..Said' where nothing that the law and all that it calls make is longer than what came in: it says more and counts as full. Else prove '..UptoSaid'. A law counts once. -/
mutual
def uptoBulk {H : Type} : DataW H → Nat
  | .lit (.string bytes) => bytes.length + 1
  | .lit _ => 1
  | .nil => 1
  | .ptr d => uptoBulk d + 1
  | .slice elems spare => uptoBulkAll elems + uptoBulkAll spare + 1
  | .agg parts => uptoBulkAll parts + 1
  | .iface _ d => uptoBulk d + 1
  | .map entries => uptoBulkEntries entries + 1
  | .held _ => 1
def uptoBulkAll {H : Type} : List (DataW H) → Nat
  | [] => 0
  | d :: r => uptoBulk d + uptoBulkAll r
def uptoBulkEntries {H : Type} : List (Lit × DataW H) → Nat
  | [] => 0
  | x :: r => uptoBulkEntry x + uptoBulkEntries r
def uptoBulkEntry {H : Type} : Lit × DataW H → Nat
  | (.string bytes, d) => bytes.length + uptoBulk d + 1
  | (_, d) => uptoBulk d + 1
 end
def uptoSmall : (H : Type) → List (DataW H) → Bool := fun _ ds => decide (uptoBulkAll ds ≤ 1048576)
def OpenSpec.upto (s : _root_.Go.ChangeSpec) : _root_.Go.OpenSpec := { _root_.Go.OpenSpec.ofChange s with cond := some uptoSmall }

/-- 'laws.FnPrefix', WHERE WHAT IT READS IS OF BULK AT MOST 1048576: true; the input reads as it did. -/
def fnPrefixUptoRow : OpenClaim := { program := "ytcbaiagkdphkeaa", sum := "876e17db7de649b5f4fe258d4de46ad871e120d3fa1db29028aa8e49c58e120d", func := "loop.example/g00139/laws.FnPrefix", spec := "fnPrefix", plainKeys := false, apart := false, narrowed := true }
def FnPrefixUptoSaid : Prop := fnPrefixUptoRow.holds Try.pinned (OpenSpec.upto fnPrefixSpec)

/-- 'laws.FnBest', WHERE WHAT IT READS IS OF BULK AT MOST 1048576: true; the input reads as it did. -/
def fnBestUptoRow : OpenClaim := { program := "ytcbaiagkdphkeaa", sum := "876e17db7de649b5f4fe258d4de46ad871e120d3fa1db29028aa8e49c58e120d", func := "loop.example/g00139/laws.FnBest", spec := "fnBest", unfollowed := true, recurses := true, plainKeys := false, apart := false, narrowed := true }
def FnBestUptoSaid : Prop := fnBestUptoRow.holds Try.pinned (OpenSpec.upto fnBestSpec)

/-- 'laws.FnCodesBack', WHERE WHAT IT READS IS OF BULK AT MOST 1048576: true; the input reads as it did. -/
def fnCodesBackUptoRow : OpenClaim := { program := "ytcbaiagkdphkeaa", sum := "876e17db7de649b5f4fe258d4de46ad871e120d3fa1db29028aa8e49c58e120d", func := "loop.example/g00139/laws.FnCodesBack", spec := "fnCodesBack", unfollowed := true, recurses := true, plainKeys := false, apart := false, narrowed := true }
def FnCodesBackUptoSaid : Prop := fnCodesBackUptoRow.holds Try.pinned (OpenSpec.upto fnCodesBackSpec)

/-- 'laws.FnExactLensOk', WHERE WHAT IT READS IS OF BULK AT MOST 1048576: true; the input reads as it did. -/
def fnExactLensOkUptoRow : OpenClaim := { program := "ytcbaiagkdphkeaa", sum := "876e17db7de649b5f4fe258d4de46ad871e120d3fa1db29028aa8e49c58e120d", func := "loop.example/g00139/laws.FnExactLensOk", spec := "fnExactLensOk", plainKeys := false, apart := false, narrowed := true }
def FnExactLensOkUptoSaid : Prop := fnExactLensOkUptoRow.holds Try.pinned (OpenSpec.upto fnExactLensOkSpec)

/-- 'laws.FnExactCodesOf', WHERE WHAT IT READS IS OF BULK AT MOST 1048576: true; the input reads as it did. -/
def fnExactCodesOfUptoRow : OpenClaim := { program := "ytcbaiagkdphkeaa", sum := "876e17db7de649b5f4fe258d4de46ad871e120d3fa1db29028aa8e49c58e120d", func := "loop.example/g00139/laws.FnExactCodesOf", spec := "fnExactCodesOf", plainKeys := false, apart := false, narrowed := true }
def FnExactCodesOfUptoSaid : Prop := fnExactCodesOfUptoRow.holds Try.pinned (OpenSpec.upto fnExactCodesOfSpec)

/-- 'laws.FnExactBestLens', WHERE WHAT IT READS IS OF BULK AT MOST 1048576: true; the input reads as it did. -/
def fnExactBestLensUptoRow : OpenClaim := { program := "ytcbaiagkdphkeaa", sum := "876e17db7de649b5f4fe258d4de46ad871e120d3fa1db29028aa8e49c58e120d", func := "loop.example/g00139/laws.FnExactBestLens", spec := "fnExactBestLens", unfollowed := true, recurses := true, plainKeys := false, apart := false, narrowed := true }
def FnExactBestLensUptoSaid : Prop := fnExactBestLensUptoRow.holds Try.pinned (OpenSpec.upto fnExactBestLensSpec)

end Rows
end Go.Proofs.Ytcbaiagkdphkeaa
