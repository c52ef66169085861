/-
  No cell of these rows narrows 'for every input' (looked for: loops, veiled, ifaces, maps, wideKeys, modest, calm, conditions, laid).
  DERIVED. THE GIVEN ROWS OF THIS SEAT. 5 by the template 'for every input the law returns true; each argument reads behind the call as it read before'; 0 by the template 'total and deterministic' (their statements: YtibgldanmhckiaaTotals.lean).
  GIVEN WITH THE SEED: the statements are not yours to turn. If you find one false, say at which input.
  Laid BY PROGRAM, IN A SANDBOX (cutbox-rows.mjs): the forced cells as the released guide's own fill.sh prints them over the translation fb18a600a7c200f3… (all of the seat's roots in one cut). By AI agents, Wed Nov 11 2026. No macro, syntax, notation, axiom, sorry.
-/
import Derived.Test.YtibgldanmhckiaaChecked
import GoSem.Claim
import GoSem.ClaimJoined
import GoSem.ClaimMapViews
import Derived.JoinedTies
import Derived.KernelRfl
namespace Go.Proofs.Ytibgldanmhckiaa
/- THE CELL 'sum', in the pinned program and in every row, IS THE sha256 OF THE DUMP (.gsa) THAT YtibgldanmhckiaaProg.lean LOADS. Nothing in Lean hashes anything: it is a label: what it is worth is what the hold of that sum in a sandbox is worth. -/
noncomputable def Try.pinned : Pinned := { name := "ytibgldanmhckiaa", sum := "fb18a600a7c200f35812306896c0529af238128eceea9d72c7da006efad8c522", checked := Try.checked }
namespace Rows
def none {H : Type} : Left H := { results := [], args := [] }

/-- 'laws.FnBlocks': WHATEVER THE INPUT: true; the input reads as it did. -/
def fnBlocksSpec : ChangeSpec := { name := "fnBlocks", fn := fun _ => fun
  | [d] => { results := [.lit (.bool true)], args := [d] }
  | _ => none }
def fnBlocksRow : OpenClaim := { program := "ytibgldanmhckiaa", sum := "fb18a600a7c200f35812306896c0529af238128eceea9d72c7da006efad8c522", func := "loop.example/g00139/laws.FnBlocks", spec := "fnBlocks", unfollowed := true, recurses := true, apart := false }
def FnBlocksSaid : Prop := fnBlocksRow.holds Try.pinned (OpenSpec.ofChange fnBlocksSpec)

/-- ITS FALSE NEIGHBOUR: 'it returns false'. Refute it at one input. -/
def fnBlocksWrong : ChangeSpec := { name := "fnBlocks", fn := fun _ => fun
  | [d] => { results := [.lit (.bool false)], args := [d] }
  | _ => none }
def FnBlocksWrongFalsely : Prop := fnBlocksRow.holds Try.pinned (OpenSpec.ofChange fnBlocksWrong)

/-- 'laws.FnExactEmptyCoefs': WHATEVER THE INPUT: true; the input reads as it did. -/
def fnExactEmptyCoefsSpec : ChangeSpec := { name := "fnExactEmptyCoefs", fn := fun _ => fun
  | [d] => { results := [.lit (.bool true)], args := [d] }
  | _ => none }
def fnExactEmptyCoefsRow : OpenClaim := { program := "ytibgldanmhckiaa", sum := "fb18a600a7c200f35812306896c0529af238128eceea9d72c7da006efad8c522", func := "loop.example/g00139/laws.FnExactEmptyCoefs", spec := "fnExactEmptyCoefs", apart := false }
def FnExactEmptyCoefsSaid : Prop := fnExactEmptyCoefsRow.holds Try.pinned (OpenSpec.ofChange fnExactEmptyCoefsSpec)

/-- ITS FALSE NEIGHBOUR: 'it returns false'. Refute it at one input. -/
def fnExactEmptyCoefsWrong : ChangeSpec := { name := "fnExactEmptyCoefs", fn := fun _ => fun
  | [d] => { results := [.lit (.bool false)], args := [d] }
  | _ => none }
def FnExactEmptyCoefsWrongFalsely : Prop := fnExactEmptyCoefsRow.holds Try.pinned (OpenSpec.ofChange fnExactEmptyCoefsWrong)

/-- 'laws.FnExactCoefsOk': WHATEVER THE INPUT: true; the input reads as it did. -/
def fnExactCoefsOkSpec : ChangeSpec := { name := "fnExactCoefsOk", fn := fun _ => fun
  | [d1, d2] => { results := [.lit (.bool true)], args := [d1, d2] }
  | _ => none }
def fnExactCoefsOkRow : OpenClaim := { program := "ytibgldanmhckiaa", sum := "fb18a600a7c200f35812306896c0529af238128eceea9d72c7da006efad8c522", func := "loop.example/g00139/laws.FnExactCoefsOk", spec := "fnExactCoefsOk", unfollowed := true, recurses := true, apart := false }
def FnExactCoefsOkSaid : Prop := fnExactCoefsOkRow.holds Try.pinned (OpenSpec.ofChange fnExactCoefsOkSpec)

/-- ITS FALSE NEIGHBOUR: 'it returns false'. Refute it at one input. -/
def fnExactCoefsOkWrong : ChangeSpec := { name := "fnExactCoefsOk", fn := fun _ => fun
  | [d1, d2] => { results := [.lit (.bool false)], args := [d1, d2] }
  | _ => none }
def FnExactCoefsOkWrongFalsely : Prop := fnExactCoefsOkRow.holds Try.pinned (OpenSpec.ofChange fnExactCoefsOkWrong)

/-- 'laws.FnExactBlockAt': WHATEVER THE INPUT: true; the input reads as it did. -/
def fnExactBlockAtSpec : ChangeSpec := { name := "fnExactBlockAt", fn := fun _ => fun
  | [d1, d2, d3] => { results := [.lit (.bool true)], args := [d1, d2, d3] }
  | _ => none }
def fnExactBlockAtRow : OpenClaim := { program := "ytibgldanmhckiaa", sum := "fb18a600a7c200f35812306896c0529af238128eceea9d72c7da006efad8c522", func := "loop.example/g00139/laws.FnExactBlockAt", spec := "fnExactBlockAt", unfollowed := true, recurses := true, apart := false }
def FnExactBlockAtSaid : Prop := fnExactBlockAtRow.holds Try.pinned (OpenSpec.ofChange fnExactBlockAtSpec)

/-- ITS FALSE NEIGHBOUR: 'it returns false'. Refute it at one input. -/
def fnExactBlockAtWrong : ChangeSpec := { name := "fnExactBlockAt", fn := fun _ => fun
  | [d1, d2, d3] => { results := [.lit (.bool false)], args := [d1, d2, d3] }
  | _ => none }
def FnExactBlockAtWrongFalsely : Prop := fnExactBlockAtRow.holds Try.pinned (OpenSpec.ofChange fnExactBlockAtWrong)

/-- 'laws.FnExactWithBlock': WHATEVER THE INPUT: true; the input reads as it did. -/
def fnExactWithBlockSpec : ChangeSpec := { name := "fnExactWithBlock", fn := fun _ => fun
  | [d1, d2, d3, d4] => { results := [.lit (.bool true)], args := [d1, d2, d3, d4] }
  | _ => none }
def fnExactWithBlockRow : OpenClaim := { program := "ytibgldanmhckiaa", sum := "fb18a600a7c200f35812306896c0529af238128eceea9d72c7da006efad8c522", func := "loop.example/g00139/laws.FnExactWithBlock", spec := "fnExactWithBlock", unfollowed := true, recurses := true, apart := false }
def FnExactWithBlockSaid : Prop := fnExactWithBlockRow.holds Try.pinned (OpenSpec.ofChange fnExactWithBlockSpec)

/-- ITS FALSE NEIGHBOUR: 'it returns false'. Refute it at one input. -/
def fnExactWithBlockWrong : ChangeSpec := { name := "fnExactWithBlock", fn := fun _ => fun
  | [d1, d2, d3, d4] => { results := [.lit (.bool false)], args := [d1, d2, d3, d4] }
  | _ => none }
def FnExactWithBlockWrongFalsely : Prop := fnExactWithBlockRow.holds Try.pinned (OpenSpec.ofChange fnExactWithBlockWrong)

/- THE SECOND FORM. 'bulk': how many values and letters a reading holds, each counted each time it is reached (what is shared counts as often as it is met; a slice's spare places count too). A statement '..UptoSaid' is the law's where the arguments, and the package variables that the reading takes, are together of bulk at most 1048576: NARROWER than '..Said'. Prove '..Said' where nothing that the law and all that it calls make is longer than what came in: it says more and counts as full. Else prove '..UptoSaid'. A law counts once. -/
mutual
def uptoBulk {H : Type} : DataW H → Nat
  | .lit (.string bytes) => bytes.length + 1
  | .lit _ => 1
  | .nil => 1
  | .ptr d => uptoBulk d + 1
  | .slice elems spare => uptoBulkAll elems + uptoBulkAll spare + 1
  | .agg parts => uptoBulkAll parts + 1
  | .iface _ d => uptoBulk d + 1
  | .map entries => uptoBulkEntries entries + 1
  | .held _ => 1
def uptoBulkAll {H : Type} : List (DataW H) → Nat
  | [] => 0
  | d :: r => uptoBulk d + uptoBulkAll r
def uptoBulkEntries {H : Type} : List (Lit × DataW H) → Nat
  | [] => 0
  | x :: r => uptoBulkEntry x + uptoBulkEntries r
def uptoBulkEntry {H : Type} : Lit × DataW H → Nat
  | (.string bytes, d) => bytes.length + uptoBulk d + 1
  | (_, d) => uptoBulk d + 1
 end
def uptoSmall : (H : Type) → List (DataW H) → Bool := fun _ ds => decide (uptoBulkAll ds ≤ 1048576)
def OpenSpec.upto (s : _root_.Go.ChangeSpec) : _root_.Go.OpenSpec := { _root_.Go.OpenSpec.ofChange s with cond := some uptoSmall }

/-- 'laws.FnBlocks', WHERE WHAT IT READS IS OF BULK AT MOST 1048576: true; the input reads as it did. -/
def fnBlocksUptoRow : OpenClaim := { program := "ytibgldanmhckiaa", sum := "fb18a600a7c200f35812306896c0529af238128eceea9d72c7da006efad8c522", func := "loop.example/g00139/laws.FnBlocks", spec := "fnBlocks", unfollowed := true, recurses := true, apart := false, narrowed := true }
def FnBlocksUptoSaid : Prop := fnBlocksUptoRow.holds Try.pinned (OpenSpec.upto fnBlocksSpec)

/-- 'laws.FnExactEmptyCoefs', WHERE WHAT IT READS IS OF BULK AT MOST 1048576: true; the input reads as it did. -/
def fnExactEmptyCoefsUptoRow : OpenClaim := { program := "ytibgldanmhckiaa", sum := "fb18a600a7c200f35812306896c0529af238128eceea9d72c7da006efad8c522", func := "loop.example/g00139/laws.FnExactEmptyCoefs", spec := "fnExactEmptyCoefs", apart := false, narrowed := true }
def FnExactEmptyCoefsUptoSaid : Prop := fnExactEmptyCoefsUptoRow.holds Try.pinned (OpenSpec.upto fnExactEmptyCoefsSpec)

/-- 'laws.FnExactCoefsOk', WHERE WHAT IT READS IS OF BULK AT MOST 1048576: true; the input reads as it did. -/
def fnExactCoefsOkUptoRow : OpenClaim := { program := "ytibgldanmhckiaa", sum := "fb18a600a7c200f35812306896c0529af238128eceea9d72c7da006efad8c522", func := "loop.example/g00139/laws.FnExactCoefsOk", spec := "fnExactCoefsOk", unfollowed := true, recurses := true, apart := false, narrowed := true }
def FnExactCoefsOkUptoSaid : Prop := fnExactCoefsOkUptoRow.holds Try.pinned (OpenSpec.upto fnExactCoefsOkSpec)

/-- 'laws.FnExactBlockAt', WHERE WHAT IT READS IS OF BULK AT MOST 1048576: true; the input reads as it did. -/
def fnExactBlockAtUptoRow : OpenClaim := { program := "ytibgldanmhckiaa", sum := "fb18a600a7c200f35812306896c0529af238128eceea9d72c7da006efad8c522", func := "loop.example/g00139/laws.FnExactBlockAt", spec := "fnExactBlockAt", unfollowed := true, recurses := true, apart := false, narrowed := true }
def FnExactBlockAtUptoSaid : Prop := fnExactBlockAtUptoRow.holds Try.pinned (OpenSpec.upto fnExactBlockAtSpec)

/-- 'laws.FnExactWithBlock', WHERE WHAT IT READS IS OF BULK AT MOST 1048576: true; the input reads as it did. -/
def fnExactWithBlockUptoRow : OpenClaim := { program := "ytibgldanmhckiaa", sum := "fb18a600a7c200f35812306896c0529af238128eceea9d72c7da006efad8c522", func := "loop.example/g00139/laws.FnExactWithBlock", spec := "fnExactWithBlock", unfollowed := true, recurses := true, apart := false, narrowed := true }
def FnExactWithBlockUptoSaid : Prop := fnExactWithBlockUptoRow.holds Try.pinned (OpenSpec.upto fnExactWithBlockSpec)

end Rows
end Go.Proofs.Ytibgldanmhckiaa
