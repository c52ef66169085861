/-
  DERIVED. GIVEN WITH THE SEED: THE CARDS: each row of YtcmgmffjnhdbfahDoorRows.lean that lists a variable, with what it lists TIED to the program's text (the seventh form; the later family's looks); each row that meets fmt, with fmt's text TOLD by the authors' own Lean function (tested against real Go, not proved from fmt's source: count such statements apart). THE CARD IS WHAT COUNTS. Prove the row's statement (the work); the ties are given (YtcmgmffjnhdbfahDoorTie.lean); close each card by the builder's one call (the guide's Derived/Test/ToyasCard.lean, 'card_holds'). Laid BY PROGRAM, IN A SANDBOX (cutbox-door.mjs). By AI agents, Wed Nov 11 2026. No macro, syntax, notation, axiom, sorry.
-/
import Derived.Test.YtcmgmffjnhdbfahDoorRows
import GoSem.ClaimSeven
namespace Go.Proofs.YtcmgmffjnhdbfahDoor
namespace Rows

/-- THE TIED CARD OF 'laws.FnExactReadSegs'. -/
def fnExactReadSegsCard : Claim7 := { stood := { row := fnExactReadSegsRow, standIns := [], harness := (true, "461983cc1ecb14447dccb54bd0a62eb9070708901b1e67e0eb24d528a704442a"), looks := true }, kinds := [], alts := [], laidByText := true, laidKinds := [.handle], laidTests := true, laidLooks := .later }
def FnExactReadSegsCardSaid : Prop := Claim7.holds Tryd.pinned (.plain (OpenSpec.ofChange fnExactReadSegsSpec)) fnExactReadSegsCard

/-- THE SECOND FORM's CARD OF 'laws.FnExactReadSegs'. -/
def fnExactReadSegsUptoCard : Claim7 := { stood := { row := fnExactReadSegsUptoRow, standIns := [], harness := (true, "461983cc1ecb14447dccb54bd0a62eb9070708901b1e67e0eb24d528a704442a"), looks := true }, kinds := [], alts := [], laidByText := true, laidKinds := [.handle], laidTests := true, laidLooks := .later }
def FnExactReadSegsUptoCardSaid : Prop := Claim7.holds Tryd.pinned (.plain (OpenSpec.upto fnExactReadSegsSpec)) fnExactReadSegsUptoCard
end Rows
end Go.Proofs.YtcmgmffjnhdbfahDoor
