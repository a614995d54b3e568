/-
  DERIVED. GIVEN WITH THE SEED: THE CARDS: each row of YteeklmgkhacbcaaGreatDoorRows.lean that lists a variable, with what it lists TIED to the program's text (the seventh form; the later family's looks); each row that meets fmt, with fmt's text TOLD by the authors' own Lean function (tested against real Go, not proved from fmt's source: count such statements apart). THE CARD IS WHAT COUNTS. Prove the row's statement (the work); the ties are given (YteeklmgkhacbcaaGreatDoorTie.lean); close each card by the builder's one call (the guide's Derived/Test/ToyasCard.lean, 'card_holds'). Laid BY PROGRAM, IN A SANDBOX (cutbox-door.mjs). By AI agents, Wed Nov 11 2026. No macro, syntax, notation, axiom, sorry.
-/
import Derived.Test.YteeklmgkhacbcaaGreatDoorRows
import GoSem.ClaimSeven
namespace Go.Proofs.YteeklmgkhacbcaaGreatDoor
namespace Rows

/-- THE TIED CARD OF 'laws.FnExactLatchInputs'. -/
def fnExactLatchInputsCard : Claim7 := { stood := { row := fnExactLatchInputsRow, standIns := [], harness := (true, "ad82bb5e9d8cb05585aa0b6b05cda34dceed3fec4b80de4ec9ae74a2abaef49a"), looks := true }, kinds := [], alts := [], laidByText := true, laidKinds := [.handle], laidTests := true, laidLooks := .later }
def FnExactLatchInputsCardSaid : Prop := Claim7.holds Tryz.pinned (.plain (OpenSpec.ofChange fnExactLatchInputsSpec)) fnExactLatchInputsCard

/-- THE TIED CARD OF 'laws.FnExactOutsOf'. -/
def fnExactOutsOfCard : Claim7 := { stood := { row := fnExactOutsOfRow, standIns := [], harness := (true, "ad82bb5e9d8cb05585aa0b6b05cda34dceed3fec4b80de4ec9ae74a2abaef49a"), looks := true }, kinds := [], alts := [], laidByText := true, laidKinds := [.handle], laidTests := true, laidLooks := .later }
def FnExactOutsOfCardSaid : Prop := Claim7.holds Tryz.pinned (.plain (OpenSpec.ofChange fnExactOutsOfSpec)) fnExactOutsOfCard

/-- THE SECOND FORM's CARD OF 'laws.FnExactLatchInputs'. -/
def fnExactLatchInputsUptoCard : Claim7 := { stood := { row := fnExactLatchInputsUptoRow, standIns := [], harness := (true, "ad82bb5e9d8cb05585aa0b6b05cda34dceed3fec4b80de4ec9ae74a2abaef49a"), looks := true }, kinds := [], alts := [], laidByText := true, laidKinds := [.handle], laidTests := true, laidLooks := .later }
def FnExactLatchInputsUptoCardSaid : Prop := Claim7.holds Tryz.pinned (.plain (OpenSpec.upto fnExactLatchInputsSpec)) fnExactLatchInputsUptoCard

/-- THE SECOND FORM's CARD OF 'laws.FnExactOutsOf'. -/
def fnExactOutsOfUptoCard : Claim7 := { stood := { row := fnExactOutsOfUptoRow, standIns := [], harness := (true, "ad82bb5e9d8cb05585aa0b6b05cda34dceed3fec4b80de4ec9ae74a2abaef49a"), looks := true }, kinds := [], alts := [], laidByText := true, laidKinds := [.handle], laidTests := true, laidLooks := .later }
def FnExactOutsOfUptoCardSaid : Prop := Claim7.holds Tryz.pinned (.plain (OpenSpec.upto fnExactOutsOfSpec)) fnExactOutsOfUptoCard
end Rows
end Go.Proofs.YteeklmgkhacbcaaGreatDoor
