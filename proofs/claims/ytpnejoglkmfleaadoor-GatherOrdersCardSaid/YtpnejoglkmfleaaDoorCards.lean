/-
  DERIVED. GIVEN WITH THE SEED: THE CARDS: each row of YtpnejoglkmfleaaDoorRows.lean that lists a variable, with what it lists TIED to the program's text (the seventh form; the later family's looks); each row that meets fmt, with fmt's text TOLD by the authors' own Lean function (tested against real Go, not proved from fmt's source: count such statements apart). THE CARD IS WHAT COUNTS. Prove the row's statement (the work); the ties are given (YtpnejoglkmfleaaDoorTie.lean); close each card by the builder's one call (the guide's Derived/Test/ToyasCard.lean, 'card_holds'). Laid BY PROGRAM, IN A SANDBOX (cutbox-door.mjs). By AI agents, Wed Nov 11 2026. No macro, syntax, notation, axiom, sorry.
-/
import Derived.Test.YtpnejoglkmfleaaDoorRows
import GoSem.ClaimSeven
namespace Go.Proofs.YtpnejoglkmfleaaDoor
namespace Rows

/-- THE TIED CARD OF 'tithinglaw16.GatherOrders'. -/
def gatherOrdersCard : Claim7 := { stood := { row := gatherOrdersRow, standIns := [], harness := (true, "e1bad8fbcf1e6fa4e35c978bdc5f2d6a412405b6de40a31774ea95db19ce5293"), looks := false }, kinds := [], alts := [], laidByText := true, laidKinds := [.data], laidTests := true, laidLooks := .later }
def GatherOrdersCardSaid : Prop := Claim7.holds Tryd.pinned (.plain (OpenSpec.ofChange gatherOrdersSpec)) gatherOrdersCard

/-- THE TIED CARD OF 'tithinglaw16.GatherNobody'. -/
def gatherNobodyCard : Claim7 := { stood := { row := gatherNobodyRow, standIns := [], harness := (true, "e1bad8fbcf1e6fa4e35c978bdc5f2d6a412405b6de40a31774ea95db19ce5293"), looks := false }, kinds := [], alts := [], laidByText := true, laidKinds := [.data, .data], laidTests := true, laidLooks := .later }
def GatherNobodyCardSaid : Prop := Claim7.holds Tryd.pinned (.plain (OpenSpec.ofChange gatherNobodySpec)) gatherNobodyCard

/-- THE SECOND FORM's CARD OF 'tithinglaw16.GatherOrders'. -/
def gatherOrdersUptoCard : Claim7 := { stood := { row := gatherOrdersUptoRow, standIns := [], harness := (true, "e1bad8fbcf1e6fa4e35c978bdc5f2d6a412405b6de40a31774ea95db19ce5293"), looks := false }, kinds := [], alts := [], laidByText := true, laidKinds := [.data], laidTests := true, laidLooks := .later }
def GatherOrdersUptoCardSaid : Prop := Claim7.holds Tryd.pinned (.plain (OpenSpec.upto gatherOrdersSpec)) gatherOrdersUptoCard

/-- THE SECOND FORM's CARD OF 'tithinglaw16.GatherNobody'. -/
def gatherNobodyUptoCard : Claim7 := { stood := { row := gatherNobodyUptoRow, standIns := [], harness := (true, "e1bad8fbcf1e6fa4e35c978bdc5f2d6a412405b6de40a31774ea95db19ce5293"), looks := false }, kinds := [], alts := [], laidByText := true, laidKinds := [.data, .data], laidTests := true, laidLooks := .later }
def GatherNobodyUptoCardSaid : Prop := Claim7.holds Tryd.pinned (.plain (OpenSpec.upto gatherNobodySpec)) gatherNobodyUptoCard
end Rows
end Go.Proofs.YtpnejoglkmfleaaDoor
