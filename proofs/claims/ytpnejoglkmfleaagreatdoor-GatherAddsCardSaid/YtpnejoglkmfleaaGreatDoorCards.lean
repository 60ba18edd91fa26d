/-
  DERIVED. GIVEN WITH THE SEED: THE CARDS: each row of YtpnejoglkmfleaaGreatDoorRows.lean that lists a variable, with what it lists TIED to the program's text (the seventh form; the later family's looks); each row that meets fmt, with fmt's text TOLD by the authors' own Lean function (tested against real Go, not proved from fmt's source: count such statements apart). THE CARD IS WHAT COUNTS. Prove the row's statement (the work); the ties are given (YtpnejoglkmfleaaGreatDoorTie.lean); close each card by the builder's one call (the guide's Derived/Test/ToyasCard.lean, 'card_holds'). Laid BY PROGRAM, IN A SANDBOX (cutbox-door.mjs). By AI agents, Wed Nov 11 2026. No macro, syntax, notation, axiom, sorry.
-/
import Derived.Test.YtpnejoglkmfleaaGreatDoorRows
import GoSem.ClaimSeven
namespace Go.Proofs.YtpnejoglkmfleaaGreatDoor
namespace Rows

/-- THE TIED CARD OF 'tithinglaw16.GatherAdds'. -/
def gatherAddsCard : Claim7 := { stood := { row := gatherAddsRow, standIns := [], harness := (true, "c24e6c00ec33bfc71e41a00c9732be26701ece9d8988cfb7e2a5ca2db9241897"), looks := false }, kinds := [], alts := [], laidByText := true, laidKinds := [.data, .data], laidTests := true, laidLooks := .later }
def GatherAddsCardSaid : Prop := Claim7.holds Tryz.pinned (.plain (OpenSpec.ofChange gatherAddsSpec)) gatherAddsCard

/-- THE SECOND FORM's CARD OF 'tithinglaw16.GatherAdds'. -/
def gatherAddsUptoCard : Claim7 := { stood := { row := gatherAddsUptoRow, standIns := [], harness := (true, "c24e6c00ec33bfc71e41a00c9732be26701ece9d8988cfb7e2a5ca2db9241897"), looks := false }, kinds := [], alts := [], laidByText := true, laidKinds := [.data, .data], laidTests := true, laidLooks := .later }
def GatherAddsUptoCardSaid : Prop := Claim7.holds Tryz.pinned (.plain (OpenSpec.upto gatherAddsSpec)) gatherAddsUptoCard
end Rows
end Go.Proofs.YtpnejoglkmfleaaGreatDoor
