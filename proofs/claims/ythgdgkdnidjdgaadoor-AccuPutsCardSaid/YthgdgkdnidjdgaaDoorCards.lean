/-
  DERIVED. GIVEN WITH THE SEED: THE CARDS: each row of YthgdgkdnidjdgaaDoorRows.lean that lists a variable, with what it lists TIED to the program's text (the seventh form; the later family's looks); each row that meets fmt, with fmt's text TOLD by the authors' own Lean function (tested against real Go, not proved from fmt's source: count such statements apart). THE CARD IS WHAT COUNTS. Prove the row's statement (the work); the ties are given (YthgdgkdnidjdgaaDoorTie.lean); close each card by the builder's one call (the guide's Derived/Test/ToyasCard.lean, 'card_holds'). Laid BY PROGRAM, IN A SANDBOX (cutbox-door.mjs). By AI agents, Wed Nov 11 2026. No macro, syntax, notation, axiom, sorry.
-/
import Derived.Test.YthgdgkdnidjdgaaDoorRows
import GoSem.ClaimSeven
namespace Go.Proofs.YthgdgkdnidjdgaaDoor
namespace Rows

/-- THE TIED CARD OF 'tithinglaw10.AccuMakes'. -/
def accuMakesCard : Claim7 := { stood := { row := accuMakesRow, standIns := [], harness := (true, "16e7ff9310e0257a7859412c3fd6f2bfdbeb601764d54e07a5f5afb9fc4213ad"), looks := false }, kinds := [], alts := [], laidByText := true, laidKinds := [.data, .data], laidTests := true, laidLooks := .later }
def AccuMakesCardSaid : Prop := Claim7.holds Tryd.pinned (.plain (OpenSpec.ofChange accuMakesSpec)) accuMakesCard

/-- THE TIED CARD OF 'tithinglaw10.AccuRight'. -/
def accuRightCard : Claim7 := { stood := { row := accuRightRow, standIns := [], harness := (true, "16e7ff9310e0257a7859412c3fd6f2bfdbeb601764d54e07a5f5afb9fc4213ad"), looks := false }, kinds := [], alts := [], laidByText := true, laidKinds := [.data, .data], laidTests := true, laidLooks := .later }
def AccuRightCardSaid : Prop := Claim7.holds Tryd.pinned (.plain (OpenSpec.ofChange accuRightSpec)) accuRightCard

/-- THE TIED CARD OF 'tithinglaw10.AccuPuts'. -/
def accuPutsCard : Claim7 := { stood := { row := accuPutsRow, standIns := [], harness := (true, "16e7ff9310e0257a7859412c3fd6f2bfdbeb601764d54e07a5f5afb9fc4213ad"), looks := false }, kinds := [], alts := [], laidByText := true, laidKinds := [.data], laidTests := true, laidLooks := .later }
def AccuPutsCardSaid : Prop := Claim7.holds Tryd.pinned (.plain (OpenSpec.ofChange accuPutsSpec)) accuPutsCard

/-- THE SECOND FORM's CARD OF 'tithinglaw10.AccuMakes'. -/
def accuMakesUptoCard : Claim7 := { stood := { row := accuMakesUptoRow, standIns := [], harness := (true, "16e7ff9310e0257a7859412c3fd6f2bfdbeb601764d54e07a5f5afb9fc4213ad"), looks := false }, kinds := [], alts := [], laidByText := true, laidKinds := [.data, .data], laidTests := true, laidLooks := .later }
def AccuMakesUptoCardSaid : Prop := Claim7.holds Tryd.pinned (.plain (OpenSpec.upto accuMakesSpec)) accuMakesUptoCard

/-- THE SECOND FORM's CARD OF 'tithinglaw10.AccuRight'. -/
def accuRightUptoCard : Claim7 := { stood := { row := accuRightUptoRow, standIns := [], harness := (true, "16e7ff9310e0257a7859412c3fd6f2bfdbeb601764d54e07a5f5afb9fc4213ad"), looks := false }, kinds := [], alts := [], laidByText := true, laidKinds := [.data, .data], laidTests := true, laidLooks := .later }
def AccuRightUptoCardSaid : Prop := Claim7.holds Tryd.pinned (.plain (OpenSpec.upto accuRightSpec)) accuRightUptoCard

/-- THE SECOND FORM's CARD OF 'tithinglaw10.AccuPuts'. -/
def accuPutsUptoCard : Claim7 := { stood := { row := accuPutsUptoRow, standIns := [], harness := (true, "16e7ff9310e0257a7859412c3fd6f2bfdbeb601764d54e07a5f5afb9fc4213ad"), looks := false }, kinds := [], alts := [], laidByText := true, laidKinds := [.data], laidTests := true, laidLooks := .later }
def AccuPutsUptoCardSaid : Prop := Claim7.holds Tryd.pinned (.plain (OpenSpec.upto accuPutsSpec)) accuPutsUptoCard
end Rows
end Go.Proofs.YthgdgkdnidjdgaaDoor
