/-
  DERIVED. GIVEN WITH THE SEED: THE CARDS: each row of YticecjodbhhcfaaDoorRows.lean that lists a variable, with what it lists TIED to the program's text (the seventh form; the later family's looks); each row that meets fmt, with fmt's text TOLD by the authors' own Lean function (tested against real Go, not proved from fmt's source: count such statements apart). THE CARD IS WHAT COUNTS. Prove the row's statement (the work); the ties are given (YticecjodbhhcfaaDoorTie.lean); close each card by the builder's one call (the guide's Derived/Test/ToyasCard.lean, 'card_holds'). Laid BY PROGRAM, IN A SANDBOX (cutbox-door.mjs). By AI agents, Wed Nov 11 2026. No macro, syntax, notation, axiom, sorry.
-/
import Derived.Test.YticecjodbhhcfaaDoorRows
import GoSem.ClaimSeven
namespace Go.Proofs.YticecjodbhhcfaaDoor
namespace Rows

/-- THE TIED CARD OF 'laws.FnSegsBack'. -/
def fnSegsBackCard : Claim7 := { stood := { row := fnSegsBackRow, standIns := [], harness := (true, "5903838ca2b3e2cd632a7a1b3978b6c361b27fb161ecfa716950326c04dbb874"), looks := true }, kinds := [], alts := [], laidByText := true, laidKinds := [.handle], laidTests := true, laidLooks := .later }
def FnSegsBackCardSaid : Prop := Claim7.holds Tryd.pinned (.plain (OpenSpec.ofChange fnSegsBackSpec)) fnSegsBackCard

/-- THE SECOND FORM's CARD OF 'laws.FnSegsBack'. -/
def fnSegsBackUptoCard : Claim7 := { stood := { row := fnSegsBackUptoRow, standIns := [], harness := (true, "5903838ca2b3e2cd632a7a1b3978b6c361b27fb161ecfa716950326c04dbb874"), looks := true }, kinds := [], alts := [], laidByText := true, laidKinds := [.handle], laidTests := true, laidLooks := .later }
def FnSegsBackUptoCardSaid : Prop := Claim7.holds Tryd.pinned (.plain (OpenSpec.upto fnSegsBackSpec)) fnSegsBackUptoCard
end Rows
end Go.Proofs.YticecjodbhhcfaaDoor
