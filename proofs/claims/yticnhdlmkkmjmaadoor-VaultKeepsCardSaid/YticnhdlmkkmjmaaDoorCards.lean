/-
  DERIVED. GIVEN WITH THE SEED: THE CARDS: each row of YticnhdlmkkmjmaaDoorRows.lean that lists a variable, with what it lists TIED to the program's text (the seventh form; the later family's looks); each row that meets fmt, with fmt's text TOLD by the authors' own Lean function (tested against real Go, not proved from fmt's source: count such statements apart). THE CARD IS WHAT COUNTS. Prove the row's statement (the work); the ties are given (YticnhdlmkkmjmaaDoorTie.lean); close each card by the builder's one call (the guide's Derived/Test/ToyasCard.lean, 'card_holds'). Laid BY PROGRAM, IN A SANDBOX (cutbox-door.mjs). By AI agents, Wed Nov 11 2026. No macro, syntax, notation, axiom, sorry.
-/
import Derived.Test.YticnhdlmkkmjmaaDoorRows
import GoSem.ClaimSeven
namespace Go.Proofs.YticnhdlmkkmjmaaDoor
namespace Rows

/-- THE TIED CARD OF 'tithinglaw14.VaultKeeps'. -/
def vaultKeepsCard : Claim7 := { stood := { row := vaultKeepsRow, standIns := [], harness := (true, "221d161b1405291e902b95d48b2b1e4c96e929f2609faa8286faa5b85accc1fd"), looks := false }, kinds := [], alts := [], laidByText := true, laidKinds := [.data], laidTests := true, laidLooks := .later }
def VaultKeepsCardSaid : Prop := Claim7.holds Tryd.pinned (.plain (OpenSpec.ofChange vaultKeepsSpec)) vaultKeepsCard

/-- THE TIED CARD OF 'tithinglaw14.VaultHalts'. -/
def vaultHaltsCard : Claim7 := { stood := { row := vaultHaltsRow, standIns := [], harness := (true, "221d161b1405291e902b95d48b2b1e4c96e929f2609faa8286faa5b85accc1fd"), looks := false }, kinds := [], alts := [], laidByText := true, laidKinds := [.data, .data], laidTests := true, laidLooks := .later }
def VaultHaltsCardSaid : Prop := Claim7.holds Tryd.pinned (.plain (OpenSpec.ofChange vaultHaltsSpec)) vaultHaltsCard

/-- THE SECOND FORM's CARD OF 'tithinglaw14.VaultKeeps'. -/
def vaultKeepsUptoCard : Claim7 := { stood := { row := vaultKeepsUptoRow, standIns := [], harness := (true, "221d161b1405291e902b95d48b2b1e4c96e929f2609faa8286faa5b85accc1fd"), looks := false }, kinds := [], alts := [], laidByText := true, laidKinds := [.data], laidTests := true, laidLooks := .later }
def VaultKeepsUptoCardSaid : Prop := Claim7.holds Tryd.pinned (.plain (OpenSpec.upto vaultKeepsSpec)) vaultKeepsUptoCard

/-- THE SECOND FORM's CARD OF 'tithinglaw14.VaultHalts'. -/
def vaultHaltsUptoCard : Claim7 := { stood := { row := vaultHaltsUptoRow, standIns := [], harness := (true, "221d161b1405291e902b95d48b2b1e4c96e929f2609faa8286faa5b85accc1fd"), looks := false }, kinds := [], alts := [], laidByText := true, laidKinds := [.data, .data], laidTests := true, laidLooks := .later }
def VaultHaltsUptoCardSaid : Prop := Claim7.holds Tryd.pinned (.plain (OpenSpec.upto vaultHaltsSpec)) vaultHaltsUptoCard
end Rows
end Go.Proofs.YticnhdlmkkmjmaaDoor
