/-
  DERIVED. GIVEN WITH THE SEED: THE CARDS: each row of YtoeehfjbnbbijabDoorRows.lean that lists a variable, with what it lists TIED to the program's text (the seventh form; the later family's looks); each row that meets fmt, with fmt's text TOLD by the authors' own Lean function (tested against real Go, not proved from fmt's source: count such statements apart). THE CARD IS WHAT COUNTS. Prove the row's statement (the work); the ties are given (YtoeehfjbnbbijabDoorTie.lean); close each card by the builder's one call (the guide's Derived/Test/ToyasCard.lean, 'card_holds'). Laid BY PROGRAM, IN A SANDBOX (cutbox-door.mjs). By AI agents, Wed Nov 11 2026. No macro, syntax, notation, axiom, sorry.
-/
import Derived.Test.YtoeehfjbnbbijabDoorRows
import GoSem.ClaimSeven
namespace Go.Proofs.YtoeehfjbnbbijabDoor
namespace Rows

/-- THE TIED CARD OF 'laws.FnWavesBack'. -/
def fnWavesBackCard : Claim7 := { stood := { row := fnWavesBackRow, standIns := [], harness := (true, "99c5b7acd3b4212ae23dc07172db2ee620359d74f446bbb9ccc43972a3204493"), looks := false }, kinds := [], alts := [], laidByText := true, laidKinds := [.data], laidTests := true, laidLooks := .later }
def FnWavesBackCardSaid : Prop := Claim7.holds Tryd.pinned (.plain (OpenSpec.ofChange fnWavesBackSpec)) fnWavesBackCard

/-- THE SECOND FORM's CARD OF 'laws.FnWavesBack'. -/
def fnWavesBackUptoCard : Claim7 := { stood := { row := fnWavesBackUptoRow, standIns := [], harness := (true, "99c5b7acd3b4212ae23dc07172db2ee620359d74f446bbb9ccc43972a3204493"), looks := false }, kinds := [], alts := [], laidByText := true, laidKinds := [.data], laidTests := true, laidLooks := .later }
def FnWavesBackUptoCardSaid : Prop := Claim7.holds Tryd.pinned (.plain (OpenSpec.upto fnWavesBackSpec)) fnWavesBackUptoCard
end Rows
end Go.Proofs.YtoeehfjbnbbijabDoor
