/-
  DERIVED. GIVEN WITH THE SEED: THE CARDS: each row of YtifkkpfiejiojaaDoorRows.lean that lists a variable, with what it lists TIED to the program's text (the seventh form; the later family's looks); each row that meets fmt, with fmt's text TOLD by the authors' own Lean function (tested against real Go, not proved from fmt's source: count such statements apart). THE CARD IS WHAT COUNTS. Prove the row's statement (the work); the ties are given (YtifkkpfiejiojaaDoorTie.lean); close each card by the builder's one call (the guide's Derived/Test/ToyasCard.lean, 'card_holds'). Laid BY PROGRAM, IN A SANDBOX (cutbox-door.mjs). By AI agents, Wed Nov 11 2026. No macro, syntax, notation, axiom, sorry.
-/
import Derived.Test.YtifkkpfiejiojaaDoorRows
import GoSem.ClaimSeven
namespace Go.Proofs.YtifkkpfiejiojaaDoor
namespace Rows

/-- THE TIED CARD OF 'tithinglaw13.BlobPuts'. -/
def blobPutsCard : Claim7 := { stood := { row := blobPutsRow, standIns := [], harness := (true, "261cf6e2334a53797461a815e3211f00eb7a3f6c08551f5094156d800fc97ee2"), looks := false }, kinds := [], alts := [], laidByText := true, laidKinds := [.data, .data], laidTests := true, laidLooks := .later }
def BlobPutsCardSaid : Prop := Claim7.holds Tryd.pinned (.plain (OpenSpec.ofChange blobPutsSpec)) blobPutsCard

/-- THE TIED CARD OF 'tithinglaw13.BlobGets'. -/
def blobGetsCard : Claim7 := { stood := { row := blobGetsRow, standIns := [], harness := (true, "261cf6e2334a53797461a815e3211f00eb7a3f6c08551f5094156d800fc97ee2"), looks := false }, kinds := [], alts := [], laidByText := true, laidKinds := [.data, .data], laidTests := true, laidLooks := .later }
def BlobGetsCardSaid : Prop := Claim7.holds Tryd.pinned (.plain (OpenSpec.ofChange blobGetsSpec)) blobGetsCard

/-- THE SECOND FORM's CARD OF 'tithinglaw13.BlobPuts'. -/
def blobPutsUptoCard : Claim7 := { stood := { row := blobPutsUptoRow, standIns := [], harness := (true, "261cf6e2334a53797461a815e3211f00eb7a3f6c08551f5094156d800fc97ee2"), looks := false }, kinds := [], alts := [], laidByText := true, laidKinds := [.data, .data], laidTests := true, laidLooks := .later }
def BlobPutsUptoCardSaid : Prop := Claim7.holds Tryd.pinned (.plain (OpenSpec.upto blobPutsSpec)) blobPutsUptoCard

/-- THE SECOND FORM's CARD OF 'tithinglaw13.BlobGets'. -/
def blobGetsUptoCard : Claim7 := { stood := { row := blobGetsUptoRow, standIns := [], harness := (true, "261cf6e2334a53797461a815e3211f00eb7a3f6c08551f5094156d800fc97ee2"), looks := false }, kinds := [], alts := [], laidByText := true, laidKinds := [.data, .data], laidTests := true, laidLooks := .later }
def BlobGetsUptoCardSaid : Prop := Claim7.holds Tryd.pinned (.plain (OpenSpec.upto blobGetsSpec)) blobGetsUptoCard
end Rows
end Go.Proofs.YtifkkpfiejiojaaDoor
