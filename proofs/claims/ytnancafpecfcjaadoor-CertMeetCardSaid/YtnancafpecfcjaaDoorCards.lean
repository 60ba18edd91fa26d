/-
  DERIVED. GIVEN WITH THE SEED: THE CARDS: each row of YtnancafpecfcjaaDoorRows.lean that lists a variable, with what it lists TIED to the program's text (the seventh form; the later family's looks); each row that meets fmt, with fmt's text TOLD by the authors' own Lean function (tested against real Go, not proved from fmt's source: count such statements apart). THE CARD IS WHAT COUNTS. Prove the row's statement (the work); the ties are given (YtnancafpecfcjaaDoorTie.lean); close each card by the builder's one call (the guide's Derived/Test/ToyasCard.lean, 'card_holds'). Laid BY PROGRAM, IN A SANDBOX (cutbox-door.mjs). By AI agents, Wed Nov 11 2026. No macro, syntax, notation, axiom, sorry.
-/
import Derived.Test.YtnancafpecfcjaaDoorRows
import GoSem.ClaimSeven
namespace Go.Proofs.YtnancafpecfcjaaDoor
namespace Rows

/-- THE TIED CARD OF 'tithinglaw09.CertMakes'. -/
def certMakesCard : Claim7 := { stood := { row := certMakesRow, standIns := [], harness := (true, "3f111ca3b6b4ed6730eb30ace38bd6a01144486176ec6cc51093cb2109c9de6c"), looks := false }, kinds := [], alts := [], laidByText := true, laidKinds := [.data, .data], laidTests := true, laidLooks := .later }
def CertMakesCardSaid : Prop := Claim7.holds Tryd.pinned (.plain (OpenSpec.ofChange certMakesSpec)) certMakesCard

/-- THE TIED CARD OF 'tithinglaw09.CertRight'. -/
def certRightCard : Claim7 := { stood := { row := certRightRow, standIns := [], harness := (true, "3f111ca3b6b4ed6730eb30ace38bd6a01144486176ec6cc51093cb2109c9de6c"), looks := false }, kinds := [], alts := [], laidByText := true, laidKinds := [.data, .data], laidTests := true, laidLooks := .later }
def CertRightCardSaid : Prop := Claim7.holds Tryd.pinned (.plain (OpenSpec.ofChange certRightSpec)) certRightCard

/-- THE TIED CARD OF 'tithinglaw09.CertPuts'. -/
def certPutsCard : Claim7 := { stood := { row := certPutsRow, standIns := [], harness := (true, "3f111ca3b6b4ed6730eb30ace38bd6a01144486176ec6cc51093cb2109c9de6c"), looks := false }, kinds := [], alts := [], laidByText := true, laidKinds := [.data], laidTests := true, laidLooks := .later }
def CertPutsCardSaid : Prop := Claim7.holds Tryd.pinned (.plain (OpenSpec.ofChange certPutsSpec)) certPutsCard

/-- THE TIED CARD OF 'tithinglaw09.CertMeet'. -/
def certMeetCard : Claim7 := { stood := { row := certMeetRow, standIns := [], harness := (true, "3f111ca3b6b4ed6730eb30ace38bd6a01144486176ec6cc51093cb2109c9de6c"), looks := false }, kinds := [], alts := [], laidByText := true, laidKinds := [.data], laidTests := true, laidLooks := .later }
def CertMeetCardSaid : Prop := Claim7.holds Tryd.pinned (.plain (OpenSpec.ofChange certMeetSpec)) certMeetCard

/-- THE SECOND FORM's CARD OF 'tithinglaw09.CertMakes'. -/
def certMakesUptoCard : Claim7 := { stood := { row := certMakesUptoRow, standIns := [], harness := (true, "3f111ca3b6b4ed6730eb30ace38bd6a01144486176ec6cc51093cb2109c9de6c"), looks := false }, kinds := [], alts := [], laidByText := true, laidKinds := [.data, .data], laidTests := true, laidLooks := .later }
def CertMakesUptoCardSaid : Prop := Claim7.holds Tryd.pinned (.plain (OpenSpec.upto certMakesSpec)) certMakesUptoCard

/-- THE SECOND FORM's CARD OF 'tithinglaw09.CertRight'. -/
def certRightUptoCard : Claim7 := { stood := { row := certRightUptoRow, standIns := [], harness := (true, "3f111ca3b6b4ed6730eb30ace38bd6a01144486176ec6cc51093cb2109c9de6c"), looks := false }, kinds := [], alts := [], laidByText := true, laidKinds := [.data, .data], laidTests := true, laidLooks := .later }
def CertRightUptoCardSaid : Prop := Claim7.holds Tryd.pinned (.plain (OpenSpec.upto certRightSpec)) certRightUptoCard

/-- THE SECOND FORM's CARD OF 'tithinglaw09.CertPuts'. -/
def certPutsUptoCard : Claim7 := { stood := { row := certPutsUptoRow, standIns := [], harness := (true, "3f111ca3b6b4ed6730eb30ace38bd6a01144486176ec6cc51093cb2109c9de6c"), looks := false }, kinds := [], alts := [], laidByText := true, laidKinds := [.data], laidTests := true, laidLooks := .later }
def CertPutsUptoCardSaid : Prop := Claim7.holds Tryd.pinned (.plain (OpenSpec.upto certPutsSpec)) certPutsUptoCard

/-- THE SECOND FORM's CARD OF 'tithinglaw09.CertMeet'. -/
def certMeetUptoCard : Claim7 := { stood := { row := certMeetUptoRow, standIns := [], harness := (true, "3f111ca3b6b4ed6730eb30ace38bd6a01144486176ec6cc51093cb2109c9de6c"), looks := false }, kinds := [], alts := [], laidByText := true, laidKinds := [.data], laidTests := true, laidLooks := .later }
def CertMeetUptoCardSaid : Prop := Claim7.holds Tryd.pinned (.plain (OpenSpec.upto certMeetSpec)) certMeetUptoCard
end Rows
end Go.Proofs.YtnancafpecfcjaaDoor
