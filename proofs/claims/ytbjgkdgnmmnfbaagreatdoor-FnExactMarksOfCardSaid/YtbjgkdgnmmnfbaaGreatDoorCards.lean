/-
  DERIVED. GIVEN WITH THE SEED: THE CARDS: each row of YtbjgkdgnmmnfbaaGreatDoorRows.lean that lists a variable, with what it lists TIED to the program's text (the seventh form; the later family's looks); each row that meets fmt, with fmt's text TOLD by the authors' own Lean function (tested against real Go, not proved from fmt's source: count such statements apart). THE CARD IS WHAT COUNTS. Prove the row's statement (the work); the ties are given (YtbjgkdgnmmnfbaaGreatDoorTie.lean); close each card by the builder's one call (the guide's Derived/Test/ToyasCard.lean, 'card_holds'). Laid BY PROGRAM, IN A SANDBOX (cutbox-door.mjs). By AI agents, Wed Nov 11 2026. No macro, syntax, notation, axiom, sorry.
-/
import Derived.Test.YtbjgkdgnmmnfbaaGreatDoorRows
import GoSem.ClaimSeven
namespace Go.Proofs.YtbjgkdgnmmnfbaaGreatDoor
namespace Rows

/-- THE TIED CARD OF 'laws.FnExactMarksOf'. -/
def fnExactMarksOfCard : Claim7 := { stood := { row := fnExactMarksOfRow, standIns := [], harness := (true, "526a7dcf9787cc858337afc7c3373c3af8b4d7f180fa6322960aa43a6e2e8c1f"), looks := true }, kinds := [], alts := [], laidByText := true, laidKinds := [.handle], laidTests := true, laidLooks := .later }
def FnExactMarksOfCardSaid : Prop := Claim7.holds Tryz.pinned (.plain (OpenSpec.ofChange fnExactMarksOfSpec)) fnExactMarksOfCard

/-- THE TIED CARD OF 'laws.FnExactLatchInputs'. -/
def fnExactLatchInputsCard : Claim7 := { stood := { row := fnExactLatchInputsRow, standIns := [], harness := (true, "526a7dcf9787cc858337afc7c3373c3af8b4d7f180fa6322960aa43a6e2e8c1f"), looks := true }, kinds := [], alts := [], laidByText := true, laidKinds := [.handle], laidTests := true, laidLooks := .later }
def FnExactLatchInputsCardSaid : Prop := Claim7.holds Tryz.pinned (.plain (OpenSpec.ofChange fnExactLatchInputsSpec)) fnExactLatchInputsCard

/-- THE TIED CARD OF 'laws.FnExactOutsOf'. -/
def fnExactOutsOfCard : Claim7 := { stood := { row := fnExactOutsOfRow, standIns := [], harness := (true, "526a7dcf9787cc858337afc7c3373c3af8b4d7f180fa6322960aa43a6e2e8c1f"), looks := true }, kinds := [], alts := [], laidByText := true, laidKinds := [.handle], laidTests := true, laidLooks := .later }
def FnExactOutsOfCardSaid : Prop := Claim7.holds Tryz.pinned (.plain (OpenSpec.ofChange fnExactOutsOfSpec)) fnExactOutsOfCard

/-- THE SECOND FORM's CARD OF 'laws.FnExactMarksOf'. -/
def fnExactMarksOfUptoCard : Claim7 := { stood := { row := fnExactMarksOfUptoRow, standIns := [], harness := (true, "526a7dcf9787cc858337afc7c3373c3af8b4d7f180fa6322960aa43a6e2e8c1f"), looks := true }, kinds := [], alts := [], laidByText := true, laidKinds := [.handle], laidTests := true, laidLooks := .later }
def FnExactMarksOfUptoCardSaid : Prop := Claim7.holds Tryz.pinned (.plain (OpenSpec.upto fnExactMarksOfSpec)) fnExactMarksOfUptoCard

/-- THE SECOND FORM's CARD OF 'laws.FnExactLatchInputs'. -/
def fnExactLatchInputsUptoCard : Claim7 := { stood := { row := fnExactLatchInputsUptoRow, standIns := [], harness := (true, "526a7dcf9787cc858337afc7c3373c3af8b4d7f180fa6322960aa43a6e2e8c1f"), looks := true }, kinds := [], alts := [], laidByText := true, laidKinds := [.handle], laidTests := true, laidLooks := .later }
def FnExactLatchInputsUptoCardSaid : Prop := Claim7.holds Tryz.pinned (.plain (OpenSpec.upto fnExactLatchInputsSpec)) fnExactLatchInputsUptoCard

/-- THE SECOND FORM's CARD OF 'laws.FnExactOutsOf'. -/
def fnExactOutsOfUptoCard : Claim7 := { stood := { row := fnExactOutsOfUptoRow, standIns := [], harness := (true, "526a7dcf9787cc858337afc7c3373c3af8b4d7f180fa6322960aa43a6e2e8c1f"), looks := true }, kinds := [], alts := [], laidByText := true, laidKinds := [.handle], laidTests := true, laidLooks := .later }
def FnExactOutsOfUptoCardSaid : Prop := Claim7.holds Tryz.pinned (.plain (OpenSpec.upto fnExactOutsOfSpec)) fnExactOutsOfUptoCard
end Rows
end Go.Proofs.YtbjgkdgnmmnfbaaGreatDoor
