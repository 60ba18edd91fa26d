/-
  DERIVED. GIVEN WITH THE SEED: THE CARDS: each row of YtakigopjbbhjkaaDoorRows.lean that lists a variable, with what it lists TIED to the program's text (the seventh form; the later family's looks); each row that meets fmt, with fmt's text TOLD by the authors' own Lean function (tested against real Go, not proved from fmt's source: count such statements apart). THE CARD IS WHAT COUNTS. Prove the row's statement (the work); the ties are given (YtakigopjbbhjkaaDoorTie.lean); close each card by the builder's one call (the guide's Derived/Test/ToyasCard.lean, 'card_holds'). Laid BY PROGRAM, IN A SANDBOX (cutbox-door.mjs). By AI agents, Wed Nov 11 2026. No macro, syntax, notation, axiom, sorry.
-/
import Derived.Test.YtakigopjbbhjkaaDoorRows
import GoSem.ClaimSeven
namespace Go.Proofs.YtakigopjbbhjkaaDoor
namespace Rows

/-- THE TIED CARD OF 'tithinglaw04.KeysTags'. -/
def keysTagsCard : Claim7 := { stood := { row := keysTagsRow, standIns := [], harness := (true, "03550bef74e9ed84577ed91a9695e153ca121ceddb6548f70e030fb7b1b8df0b"), looks := false }, kinds := [], alts := [], laidByText := true, laidKinds := [.data, .data], laidTests := true, laidLooks := .later }
def KeysTagsCardSaid : Prop := Claim7.holds Tryd.pinned (.plain (OpenSpec.ofChange keysTagsSpec)) keysTagsCard

/-- THE TIED CARD OF 'tithinglaw04.KeysMeet'. -/
def keysMeetCard : Claim7 := { stood := { row := keysMeetRow, standIns := [], harness := (true, "03550bef74e9ed84577ed91a9695e153ca121ceddb6548f70e030fb7b1b8df0b"), looks := false }, kinds := [], alts := [], laidByText := true, laidKinds := [.data], laidTests := true, laidLooks := .later }
def KeysMeetCardSaid : Prop := Claim7.holds Tryd.pinned (.plain (OpenSpec.ofChange keysMeetSpec)) keysMeetCard

/-- THE SECOND FORM's CARD OF 'tithinglaw04.KeysTags'. -/
def keysTagsUptoCard : Claim7 := { stood := { row := keysTagsUptoRow, standIns := [], harness := (true, "03550bef74e9ed84577ed91a9695e153ca121ceddb6548f70e030fb7b1b8df0b"), looks := false }, kinds := [], alts := [], laidByText := true, laidKinds := [.data, .data], laidTests := true, laidLooks := .later }
def KeysTagsUptoCardSaid : Prop := Claim7.holds Tryd.pinned (.plain (OpenSpec.upto keysTagsSpec)) keysTagsUptoCard

/-- THE SECOND FORM's CARD OF 'tithinglaw04.KeysMeet'. -/
def keysMeetUptoCard : Claim7 := { stood := { row := keysMeetUptoRow, standIns := [], harness := (true, "03550bef74e9ed84577ed91a9695e153ca121ceddb6548f70e030fb7b1b8df0b"), looks := false }, kinds := [], alts := [], laidByText := true, laidKinds := [.data], laidTests := true, laidLooks := .later }
def KeysMeetUptoCardSaid : Prop := Claim7.holds Tryd.pinned (.plain (OpenSpec.upto keysMeetSpec)) keysMeetUptoCard
end Rows
end Go.Proofs.YtakigopjbbhjkaaDoor
