/-
  DERIVED. GIVEN WITH THE SEED: THE CARDS: each row of YtoeehfjbnbbijakDoorRows.lean that lists a variable, with what it lists TIED to the program's text (the seventh form; the later family's looks); each row that meets fmt, with fmt's text TOLD by the authors' own Lean function (tested against real Go, not proved from fmt's source: count such statements apart). THE CARD IS WHAT COUNTS. Prove the row's statement (the work); the ties are given (YtoeehfjbnbbijakDoorTie.lean); close each card by the builder's one call (the guide's Derived/Test/ToyasCard.lean, 'card_holds'). Laid BY PROGRAM, IN A SANDBOX (cutbox-door.mjs). By AI agents, Wed Nov 11 2026. No macro, syntax, notation, axiom, sorry.
-/
import Derived.Test.YtoeehfjbnbbijakDoorRows
import GoSem.ClaimSeven
namespace Go.Proofs.YtoeehfjbnbbijakDoor
namespace Rows

/-- THE TIED CARD OF 'laws.FnExactBasis'. -/
def fnExactBasisCard : Claim7 := { stood := { row := fnExactBasisRow, standIns := [], harness := (true, "6fe0cf32384635b7fbbba10a3b6c41e31ba61197d223c22d2f6c766901901f18"), looks := false }, kinds := [], alts := [], laidByText := true, laidKinds := [.data], laidTests := true, laidLooks := .later }
def FnExactBasisCardSaid : Prop := Claim7.holds Tryd.pinned (.plain (OpenSpec.ofChange fnExactBasisSpec)) fnExactBasisCard

/-- THE TIED CARD OF 'laws.FnExactForward'. -/
def fnExactForwardCard : Claim7 := { stood := { row := fnExactForwardRow, standIns := [], harness := (true, "6fe0cf32384635b7fbbba10a3b6c41e31ba61197d223c22d2f6c766901901f18"), looks := false }, kinds := [], alts := [], laidByText := true, laidKinds := [.data], laidTests := true, laidLooks := .later }
def FnExactForwardCardSaid : Prop := Claim7.holds Tryd.pinned (.plain (OpenSpec.ofChange fnExactForwardSpec)) fnExactForwardCard

/-- THE SECOND FORM's CARD OF 'laws.FnExactBasis'. -/
def fnExactBasisUptoCard : Claim7 := { stood := { row := fnExactBasisUptoRow, standIns := [], harness := (true, "6fe0cf32384635b7fbbba10a3b6c41e31ba61197d223c22d2f6c766901901f18"), looks := false }, kinds := [], alts := [], laidByText := true, laidKinds := [.data], laidTests := true, laidLooks := .later }
def FnExactBasisUptoCardSaid : Prop := Claim7.holds Tryd.pinned (.plain (OpenSpec.upto fnExactBasisSpec)) fnExactBasisUptoCard

/-- THE SECOND FORM's CARD OF 'laws.FnExactForward'. -/
def fnExactForwardUptoCard : Claim7 := { stood := { row := fnExactForwardUptoRow, standIns := [], harness := (true, "6fe0cf32384635b7fbbba10a3b6c41e31ba61197d223c22d2f6c766901901f18"), looks := false }, kinds := [], alts := [], laidByText := true, laidKinds := [.data], laidTests := true, laidLooks := .later }
def FnExactForwardUptoCardSaid : Prop := Claim7.holds Tryd.pinned (.plain (OpenSpec.upto fnExactForwardSpec)) fnExactForwardUptoCard
end Rows
end Go.Proofs.YtoeehfjbnbbijakDoor
