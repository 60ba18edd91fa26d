/-
  DERIVED. GIVEN WITH THE SEED: THE CARDS: each row of YtjlinimnnbfmaaaGreatDoorRows.lean that lists a variable, with what it lists TIED to the program's text (the seventh form; the later family's looks); each row that meets fmt, with fmt's text TOLD by the authors' own Lean function (tested against real Go, not proved from fmt's source: count such statements apart). THE CARD IS WHAT COUNTS. Prove the row's statement (the work); the ties are given (YtjlinimnnbfmaaaGreatDoorTie.lean); close each card by the builder's one call (the guide's Derived/Test/ToyasCard.lean, 'card_holds'). Laid BY PROGRAM, IN A SANDBOX (cutbox-door.mjs). By AI agents, Wed Nov 11 2026. No macro, syntax, notation, axiom, sorry.
-/
import Derived.Test.YtjlinimnnbfmaaaGreatDoorRows
import GoSem.ClaimSeven
namespace Go.Proofs.YtjlinimnnbfmaaaGreatDoor
namespace Rows

/-- THE TIED CARD OF 'tithinglaw17.TeeDoes'. -/
def teeDoesCard : Claim7 := { stood := { row := teeDoesRow, standIns := [], harness := (true, "29400a3efb40497e95e40dc99ac355b4164c9287b00326d1469a3b0a6d809b09"), looks := false }, kinds := [], alts := [], laidByText := true, laidKinds := [.data, .data], laidTests := true, laidLooks := .later }
def TeeDoesCardSaid : Prop := Claim7.holds Tryz.pinned (.plain (OpenSpec.ofChange teeDoesSpec)) teeDoesCard

/-- THE SECOND FORM's CARD OF 'tithinglaw17.TeeDoes'. -/
def teeDoesUptoCard : Claim7 := { stood := { row := teeDoesUptoRow, standIns := [], harness := (true, "29400a3efb40497e95e40dc99ac355b4164c9287b00326d1469a3b0a6d809b09"), looks := false }, kinds := [], alts := [], laidByText := true, laidKinds := [.data, .data], laidTests := true, laidLooks := .later }
def TeeDoesUptoCardSaid : Prop := Claim7.holds Tryz.pinned (.plain (OpenSpec.upto teeDoesSpec)) teeDoesUptoCard
end Rows
end Go.Proofs.YtjlinimnnbfmaaaGreatDoor
