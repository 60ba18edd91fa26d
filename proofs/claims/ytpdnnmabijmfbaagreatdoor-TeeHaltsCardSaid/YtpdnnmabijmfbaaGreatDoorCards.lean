/-
  DERIVED. GIVEN WITH THE SEED: THE CARDS: each row of YtpdnnmabijmfbaaGreatDoorRows.lean that lists a variable, with what it lists TIED to the program's text (the seventh form; the later family's looks); each row that meets fmt, with fmt's text TOLD by the authors' own Lean function (tested against real Go, not proved from fmt's source: count such statements apart). THE CARD IS WHAT COUNTS. Prove the row's statement (the work); the ties are given (YtpdnnmabijmfbaaGreatDoorTie.lean); close each card by the builder's one call (the guide's Derived/Test/ToyasCard.lean, 'card_holds'). Laid BY PROGRAM, IN A SANDBOX (cutbox-door.mjs). By AI agents, Wed Nov 11 2026. No macro, syntax, notation, axiom, sorry.
-/
import Derived.Test.YtpdnnmabijmfbaaGreatDoorRows
import GoSem.ClaimSeven
namespace Go.Proofs.YtpdnnmabijmfbaaGreatDoor
namespace Rows

/-- THE TIED CARD OF 'tithinglaw17.TeeDoes'. -/
def teeDoesCard : Claim7 := { stood := { row := teeDoesRow, standIns := [], harness := (true, "ed99c1f73351a6d00986ac7e194b2278d650e3f6cf8f50589a3ce9c2679a36ce"), looks := false }, kinds := [], alts := [], laidByText := true, laidKinds := [.data, .data], laidTests := true, laidLooks := .later }
def TeeDoesCardSaid : Prop := Claim7.holds Tryz.pinned (.plain (OpenSpec.ofChange teeDoesSpec)) teeDoesCard

/-- THE TIED CARD OF 'tithinglaw17.TeeHalts'. -/
def teeHaltsCard : Claim7 := { stood := { row := teeHaltsRow, standIns := [], harness := (true, "ed99c1f73351a6d00986ac7e194b2278d650e3f6cf8f50589a3ce9c2679a36ce"), looks := false }, kinds := [], alts := [], laidByText := true, laidKinds := [.data, .data], laidTests := true, laidLooks := .later }
def TeeHaltsCardSaid : Prop := Claim7.holds Tryz.pinned (.plain (OpenSpec.ofChange teeHaltsSpec)) teeHaltsCard

/-- THE SECOND FORM's CARD OF 'tithinglaw17.TeeDoes'. -/
def teeDoesUptoCard : Claim7 := { stood := { row := teeDoesUptoRow, standIns := [], harness := (true, "ed99c1f73351a6d00986ac7e194b2278d650e3f6cf8f50589a3ce9c2679a36ce"), looks := false }, kinds := [], alts := [], laidByText := true, laidKinds := [.data, .data], laidTests := true, laidLooks := .later }
def TeeDoesUptoCardSaid : Prop := Claim7.holds Tryz.pinned (.plain (OpenSpec.upto teeDoesSpec)) teeDoesUptoCard

/-- THE SECOND FORM's CARD OF 'tithinglaw17.TeeHalts'. -/
def teeHaltsUptoCard : Claim7 := { stood := { row := teeHaltsUptoRow, standIns := [], harness := (true, "ed99c1f73351a6d00986ac7e194b2278d650e3f6cf8f50589a3ce9c2679a36ce"), looks := false }, kinds := [], alts := [], laidByText := true, laidKinds := [.data, .data], laidTests := true, laidLooks := .later }
def TeeHaltsUptoCardSaid : Prop := Claim7.holds Tryz.pinned (.plain (OpenSpec.upto teeHaltsSpec)) teeHaltsUptoCard
end Rows
end Go.Proofs.YtpdnnmabijmfbaaGreatDoor
