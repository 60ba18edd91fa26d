/-
  DERIVED. GIVEN WITH THE SEED: THE CARDS: each row of YtghophbabbaleaaGreatDoorRows.lean that lists a variable, with what it lists TIED to the program's text (the seventh form; the later family's looks); each row that meets fmt, with fmt's text TOLD by the authors' own Lean function (tested against real Go, not proved from fmt's source: count such statements apart). THE CARD IS WHAT COUNTS. Prove the row's statement (the work); the ties are given (YtghophbabbaleaaGreatDoorTie.lean); close each card by the builder's one call (the guide's Derived/Test/ToyasCard.lean, 'card_holds'). Laid BY PROGRAM, IN A SANDBOX (cutbox-door.mjs). By AI agents, Wed Nov 11 2026. No macro, syntax, notation, axiom, sorry.
-/
import Derived.Test.YtghophbabbaleaaGreatDoorRows
import GoSem.ClaimSeven
namespace Go.Proofs.YtghophbabbaleaaGreatDoor
namespace Rows

/-- THE TIED CARD OF 'tithinglaw14.VaultActs'. -/
def vaultActsCard : Claim7 := { stood := { row := vaultActsRow, standIns := [], harness := (true, "78b230ed5fa86fef44307bdc6b1d7b6bcfeb615fe26cb5448ae3a7b775bd62e7"), looks := false }, kinds := [], alts := [], laidByText := true, laidKinds := [.data, .data], laidTests := true, laidLooks := .later }
def VaultActsCardSaid : Prop := Claim7.holds Tryz.pinned (.plain (OpenSpec.ofChange vaultActsSpec)) vaultActsCard

/-- THE TIED CARD OF 'tithinglaw15.CheckerSteps'. -/
def checkerStepsCard : Claim7 := { stood := { row := checkerStepsRow, standIns := [], harness := (true, "78b230ed5fa86fef44307bdc6b1d7b6bcfeb615fe26cb5448ae3a7b775bd62e7"), looks := false }, kinds := [], alts := [], laidByText := true, laidKinds := [.data, .data], laidTests := true, laidLooks := .later }
def CheckerStepsCardSaid : Prop := Claim7.holds Tryz.pinned (.plain (OpenSpec.ofChange checkerStepsSpec)) checkerStepsCard

/-- THE TIED CARD OF 'tithinglaw15.CheckerRises'. -/
def checkerRisesCard : Claim7 := { stood := { row := checkerRisesRow, standIns := [], harness := (true, "78b230ed5fa86fef44307bdc6b1d7b6bcfeb615fe26cb5448ae3a7b775bd62e7"), looks := false }, kinds := [], alts := [], laidByText := true, laidKinds := [.data, .data], laidTests := true, laidLooks := .later }
def CheckerRisesCardSaid : Prop := Claim7.holds Tryz.pinned (.plain (OpenSpec.ofChange checkerRisesSpec)) checkerRisesCard

/-- THE SECOND FORM's CARD OF 'tithinglaw14.VaultActs'. -/
def vaultActsUptoCard : Claim7 := { stood := { row := vaultActsUptoRow, standIns := [], harness := (true, "78b230ed5fa86fef44307bdc6b1d7b6bcfeb615fe26cb5448ae3a7b775bd62e7"), looks := false }, kinds := [], alts := [], laidByText := true, laidKinds := [.data, .data], laidTests := true, laidLooks := .later }
def VaultActsUptoCardSaid : Prop := Claim7.holds Tryz.pinned (.plain (OpenSpec.upto vaultActsSpec)) vaultActsUptoCard

/-- THE SECOND FORM's CARD OF 'tithinglaw15.CheckerSteps'. -/
def checkerStepsUptoCard : Claim7 := { stood := { row := checkerStepsUptoRow, standIns := [], harness := (true, "78b230ed5fa86fef44307bdc6b1d7b6bcfeb615fe26cb5448ae3a7b775bd62e7"), looks := false }, kinds := [], alts := [], laidByText := true, laidKinds := [.data, .data], laidTests := true, laidLooks := .later }
def CheckerStepsUptoCardSaid : Prop := Claim7.holds Tryz.pinned (.plain (OpenSpec.upto checkerStepsSpec)) checkerStepsUptoCard

/-- THE SECOND FORM's CARD OF 'tithinglaw15.CheckerRises'. -/
def checkerRisesUptoCard : Claim7 := { stood := { row := checkerRisesUptoRow, standIns := [], harness := (true, "78b230ed5fa86fef44307bdc6b1d7b6bcfeb615fe26cb5448ae3a7b775bd62e7"), looks := false }, kinds := [], alts := [], laidByText := true, laidKinds := [.data, .data], laidTests := true, laidLooks := .later }
def CheckerRisesUptoCardSaid : Prop := Claim7.holds Tryz.pinned (.plain (OpenSpec.upto checkerRisesSpec)) checkerRisesUptoCard
end Rows
end Go.Proofs.YtghophbabbaleaaGreatDoor
