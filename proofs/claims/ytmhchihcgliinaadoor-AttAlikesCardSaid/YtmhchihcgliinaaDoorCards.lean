/-
  DERIVED. GIVEN WITH THE SEED: THE CARDS: each row of YtmhchihcgliinaaDoorRows.lean that lists a variable, with what it lists TIED to the program's text (the seventh form; the later family's looks); each row that meets fmt, with fmt's text TOLD by the authors' own Lean function (tested against real Go, not proved from fmt's source: count such statements apart). THE CARD IS WHAT COUNTS. Prove the row's statement (the work); the ties are given (YtmhchihcgliinaaDoorTie.lean); close each card by the builder's one call (the guide's Derived/Test/ToyasCard.lean, 'card_holds'). Laid BY PROGRAM, IN A SANDBOX (cutbox-door.mjs). By AI agents, Wed Nov 11 2026. No macro, syntax, notation, axiom, sorry.
-/
import Derived.Test.YtmhchihcgliinaaDoorRows
import GoSem.ClaimSeven
namespace Go.Proofs.YtmhchihcgliinaaDoor
namespace Rows

/-- THE TIED CARD OF 'tithinglaw08.AttPuts'. -/
def attPutsCard : Claim7 := { stood := { row := attPutsRow, standIns := [], harness := (true, "e7183d1da5e192241f8a2db2446e9e2b1ff3d4465dc57a4720441da8025d5203"), looks := false }, kinds := [], alts := [], laidByText := true, laidKinds := [.data], laidTests := true, laidLooks := .later }
def AttPutsCardSaid : Prop := Claim7.holds Tryd.pinned (.plain (OpenSpec.ofChange attPutsSpec)) attPutsCard

/-- THE TIED CARD OF 'tithinglaw08.AttReads'. -/
def attReadsCard : Claim7 := { stood := { row := attReadsRow, standIns := [], harness := (true, "e7183d1da5e192241f8a2db2446e9e2b1ff3d4465dc57a4720441da8025d5203"), looks := false }, kinds := [], alts := [], laidByText := true, laidKinds := [.data], laidTests := true, laidLooks := .later }
def AttReadsCardSaid : Prop := Claim7.holds Tryd.pinned (.plain (OpenSpec.ofChange attReadsSpec)) attReadsCard

/-- THE TIED CARD OF 'tithinglaw08.AttAlikes'. -/
def attAlikesCard : Claim7 := { stood := { row := attAlikesRow, standIns := [], harness := (true, "e7183d1da5e192241f8a2db2446e9e2b1ff3d4465dc57a4720441da8025d5203"), looks := false }, kinds := [], alts := [], laidByText := true, laidKinds := [.data], laidTests := true, laidLooks := .later }
def AttAlikesCardSaid : Prop := Claim7.holds Tryd.pinned (.plain (OpenSpec.ofChange attAlikesSpec)) attAlikesCard

/-- THE SECOND FORM's CARD OF 'tithinglaw08.AttPuts'. -/
def attPutsUptoCard : Claim7 := { stood := { row := attPutsUptoRow, standIns := [], harness := (true, "e7183d1da5e192241f8a2db2446e9e2b1ff3d4465dc57a4720441da8025d5203"), looks := false }, kinds := [], alts := [], laidByText := true, laidKinds := [.data], laidTests := true, laidLooks := .later }
def AttPutsUptoCardSaid : Prop := Claim7.holds Tryd.pinned (.plain (OpenSpec.upto attPutsSpec)) attPutsUptoCard

/-- THE SECOND FORM's CARD OF 'tithinglaw08.AttReads'. -/
def attReadsUptoCard : Claim7 := { stood := { row := attReadsUptoRow, standIns := [], harness := (true, "e7183d1da5e192241f8a2db2446e9e2b1ff3d4465dc57a4720441da8025d5203"), looks := false }, kinds := [], alts := [], laidByText := true, laidKinds := [.data], laidTests := true, laidLooks := .later }
def AttReadsUptoCardSaid : Prop := Claim7.holds Tryd.pinned (.plain (OpenSpec.upto attReadsSpec)) attReadsUptoCard

/-- THE SECOND FORM's CARD OF 'tithinglaw08.AttAlikes'. -/
def attAlikesUptoCard : Claim7 := { stood := { row := attAlikesUptoRow, standIns := [], harness := (true, "e7183d1da5e192241f8a2db2446e9e2b1ff3d4465dc57a4720441da8025d5203"), looks := false }, kinds := [], alts := [], laidByText := true, laidKinds := [.data], laidTests := true, laidLooks := .later }
def AttAlikesUptoCardSaid : Prop := Claim7.holds Tryd.pinned (.plain (OpenSpec.upto attAlikesSpec)) attAlikesUptoCard
end Rows
end Go.Proofs.YtmhchihcgliinaaDoor
