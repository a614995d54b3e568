/-
  DERIVED. GIVEN WITH THE SEED: THE CARDS: each row of YtcecfmdjicjngaaGreatDoorRows.lean that lists a variable, with what it lists TIED to the program's text (the seventh form; the later family's looks); each row that meets fmt, with fmt's text TOLD by the authors' own Lean function (tested against real Go, not proved from fmt's source: count such statements apart). THE CARD IS WHAT COUNTS. Prove the row's statement (the work); the ties are given (YtcecfmdjicjngaaGreatDoorTie.lean); close each card by the builder's one call (the guide's Derived/Test/ToyasCard.lean, 'card_holds'). Laid BY PROGRAM, IN A SANDBOX (cutbox-door.mjs). By AI agents, Wed Nov 11 2026. No macro, syntax, notation, axiom, sorry.
-/
import Derived.Test.YtcecfmdjicjngaaGreatDoorRows
import GoSem.ClaimSeven
namespace Go.Proofs.YtcecfmdjicjngaaGreatDoor
namespace Rows

/-- THE TIED CARD OF 'laws.FnChecks'. -/
def fnChecksCard : Claim7 := { stood := { row := fnChecksRow, standIns := [], harness := (true, "f81a86364572b4d3f1df3faeb58a0d7370d86b2d67e9a825278ae0e1bb81d61c"), looks := true }, kinds := [], alts := [], laidByText := true, laidKinds := [.handle], laidTests := true, laidLooks := .later }
def FnChecksCardSaid : Prop := Claim7.holds Tryz.pinned (.plain (OpenSpec.ofChange fnChecksSpec)) fnChecksCard

/-- THE TIED CARD OF 'laws.FnCellsApart'. -/
def fnCellsApartCard : Claim7 := { stood := { row := fnCellsApartRow, standIns := [], harness := (true, "f81a86364572b4d3f1df3faeb58a0d7370d86b2d67e9a825278ae0e1bb81d61c"), looks := true }, kinds := [], alts := [], laidByText := true, laidKinds := [.handle], laidTests := true, laidLooks := .later }
def FnCellsApartCardSaid : Prop := Claim7.holds Tryz.pinned (.plain (OpenSpec.ofChange fnCellsApartSpec)) fnCellsApartCard

/-- THE TIED CARD OF 'laws.FnLatches'. -/
def fnLatchesCard : Claim7 := { stood := { row := fnLatchesRow, standIns := [], harness := (true, "f81a86364572b4d3f1df3faeb58a0d7370d86b2d67e9a825278ae0e1bb81d61c"), looks := true }, kinds := [], alts := [], laidByText := true, laidKinds := [.handle], laidTests := true, laidLooks := .later }
def FnLatchesCardSaid : Prop := Claim7.holds Tryz.pinned (.plain (OpenSpec.ofChange fnLatchesSpec)) fnLatchesCard

/-- THE TIED CARD OF 'laws.FnExactCheckTree'. -/
def fnExactCheckTreeCard : Claim7 := { stood := { row := fnExactCheckTreeRow, standIns := [], harness := (true, "f81a86364572b4d3f1df3faeb58a0d7370d86b2d67e9a825278ae0e1bb81d61c"), looks := true }, kinds := [], alts := [], laidByText := true, laidKinds := [.handle], laidTests := true, laidLooks := .later }
def FnExactCheckTreeCardSaid : Prop := Claim7.holds Tryz.pinned (.plain (OpenSpec.ofChange fnExactCheckTreeSpec)) fnExactCheckTreeCard

/-- THE TIED CARD OF 'laws.FnExactStartState'. -/
def fnExactStartStateCard : Claim7 := { stood := { row := fnExactStartStateRow, standIns := [], harness := (true, "f81a86364572b4d3f1df3faeb58a0d7370d86b2d67e9a825278ae0e1bb81d61c"), looks := true }, kinds := [], alts := [], laidByText := true, laidKinds := [.handle], laidTests := true, laidLooks := .later }
def FnExactStartStateCardSaid : Prop := Claim7.holds Tryz.pinned (.plain (OpenSpec.ofChange fnExactStartStateSpec)) fnExactStartStateCard

/-- THE TIED CARD OF 'laws.FnExactStateFault'. -/
def fnExactStateFaultCard : Claim7 := { stood := { row := fnExactStateFaultRow, standIns := [], harness := (true, "f81a86364572b4d3f1df3faeb58a0d7370d86b2d67e9a825278ae0e1bb81d61c"), looks := true }, kinds := [], alts := [], laidByText := true, laidKinds := [.handle], laidTests := true, laidLooks := .later }
def FnExactStateFaultCardSaid : Prop := Claim7.holds Tryz.pinned (.plain (OpenSpec.ofChange fnExactStateFaultSpec)) fnExactStateFaultCard

/-- THE TIED CARD OF 'laws.FnExactTempNames'. -/
def fnExactTempNamesCard : Claim7 := { stood := { row := fnExactTempNamesRow, standIns := [], harness := (true, "f81a86364572b4d3f1df3faeb58a0d7370d86b2d67e9a825278ae0e1bb81d61c"), looks := true }, kinds := [], alts := [], laidByText := true, laidKinds := [.handle], laidTests := true, laidLooks := .later }
def FnExactTempNamesCardSaid : Prop := Claim7.holds Tryz.pinned (.plain (OpenSpec.ofChange fnExactTempNamesSpec)) fnExactTempNamesCard

/-- THE TIED CARD OF 'laws.FnExactOwnNames'. -/
def fnExactOwnNamesCard : Claim7 := { stood := { row := fnExactOwnNamesRow, standIns := [], harness := (true, "f81a86364572b4d3f1df3faeb58a0d7370d86b2d67e9a825278ae0e1bb81d61c"), looks := true }, kinds := [], alts := [], laidByText := true, laidKinds := [.handle], laidTests := true, laidLooks := .later }
def FnExactOwnNamesCardSaid : Prop := Claim7.holds Tryz.pinned (.plain (OpenSpec.ofChange fnExactOwnNamesSpec)) fnExactOwnNamesCard

/-- THE TIED CARD OF 'laws.FnExactCompileStack'. -/
def fnExactCompileStackCard : Claim7 := { stood := { row := fnExactCompileStackRow, standIns := [], harness := (true, "f81a86364572b4d3f1df3faeb58a0d7370d86b2d67e9a825278ae0e1bb81d61c"), looks := true }, kinds := [], alts := [], laidByText := true, laidKinds := [.handle], laidTests := true, laidLooks := .later }
def FnExactCompileStackCardSaid : Prop := Claim7.holds Tryz.pinned (.plain (OpenSpec.ofChange fnExactCompileStackSpec)) fnExactCompileStackCard

/-- THE TIED CARD OF 'laws.FnExactMarksOf'. -/
def fnExactMarksOfCard : Claim7 := { stood := { row := fnExactMarksOfRow, standIns := [], harness := (true, "f81a86364572b4d3f1df3faeb58a0d7370d86b2d67e9a825278ae0e1bb81d61c"), looks := true }, kinds := [], alts := [], laidByText := true, laidKinds := [.handle], laidTests := true, laidLooks := .later }
def FnExactMarksOfCardSaid : Prop := Claim7.holds Tryz.pinned (.plain (OpenSpec.ofChange fnExactMarksOfSpec)) fnExactMarksOfCard

/-- THE TIED CARD OF 'laws.FnExactLatchInputs'. -/
def fnExactLatchInputsCard : Claim7 := { stood := { row := fnExactLatchInputsRow, standIns := [], harness := (true, "f81a86364572b4d3f1df3faeb58a0d7370d86b2d67e9a825278ae0e1bb81d61c"), looks := true }, kinds := [], alts := [], laidByText := true, laidKinds := [.handle], laidTests := true, laidLooks := .later }
def FnExactLatchInputsCardSaid : Prop := Claim7.holds Tryz.pinned (.plain (OpenSpec.ofChange fnExactLatchInputsSpec)) fnExactLatchInputsCard

/-- THE TIED CARD OF 'laws.FnExactOutsOf'. -/
def fnExactOutsOfCard : Claim7 := { stood := { row := fnExactOutsOfRow, standIns := [], harness := (true, "f81a86364572b4d3f1df3faeb58a0d7370d86b2d67e9a825278ae0e1bb81d61c"), looks := true }, kinds := [], alts := [], laidByText := true, laidKinds := [.handle], laidTests := true, laidLooks := .later }
def FnExactOutsOfCardSaid : Prop := Claim7.holds Tryz.pinned (.plain (OpenSpec.ofChange fnExactOutsOfSpec)) fnExactOutsOfCard

/-- THE SECOND FORM's CARD OF 'laws.FnChecks'. -/
def fnChecksUptoCard : Claim7 := { stood := { row := fnChecksUptoRow, standIns := [], harness := (true, "f81a86364572b4d3f1df3faeb58a0d7370d86b2d67e9a825278ae0e1bb81d61c"), looks := true }, kinds := [], alts := [], laidByText := true, laidKinds := [.handle], laidTests := true, laidLooks := .later }
def FnChecksUptoCardSaid : Prop := Claim7.holds Tryz.pinned (.plain (OpenSpec.upto fnChecksSpec)) fnChecksUptoCard

/-- THE SECOND FORM's CARD OF 'laws.FnCellsApart'. -/
def fnCellsApartUptoCard : Claim7 := { stood := { row := fnCellsApartUptoRow, standIns := [], harness := (true, "f81a86364572b4d3f1df3faeb58a0d7370d86b2d67e9a825278ae0e1bb81d61c"), looks := true }, kinds := [], alts := [], laidByText := true, laidKinds := [.handle], laidTests := true, laidLooks := .later }
def FnCellsApartUptoCardSaid : Prop := Claim7.holds Tryz.pinned (.plain (OpenSpec.upto fnCellsApartSpec)) fnCellsApartUptoCard

/-- THE SECOND FORM's CARD OF 'laws.FnLatches'. -/
def fnLatchesUptoCard : Claim7 := { stood := { row := fnLatchesUptoRow, standIns := [], harness := (true, "f81a86364572b4d3f1df3faeb58a0d7370d86b2d67e9a825278ae0e1bb81d61c"), looks := true }, kinds := [], alts := [], laidByText := true, laidKinds := [.handle], laidTests := true, laidLooks := .later }
def FnLatchesUptoCardSaid : Prop := Claim7.holds Tryz.pinned (.plain (OpenSpec.upto fnLatchesSpec)) fnLatchesUptoCard

/-- THE SECOND FORM's CARD OF 'laws.FnExactCheckTree'. -/
def fnExactCheckTreeUptoCard : Claim7 := { stood := { row := fnExactCheckTreeUptoRow, standIns := [], harness := (true, "f81a86364572b4d3f1df3faeb58a0d7370d86b2d67e9a825278ae0e1bb81d61c"), looks := true }, kinds := [], alts := [], laidByText := true, laidKinds := [.handle], laidTests := true, laidLooks := .later }
def FnExactCheckTreeUptoCardSaid : Prop := Claim7.holds Tryz.pinned (.plain (OpenSpec.upto fnExactCheckTreeSpec)) fnExactCheckTreeUptoCard

/-- THE SECOND FORM's CARD OF 'laws.FnExactStartState'. -/
def fnExactStartStateUptoCard : Claim7 := { stood := { row := fnExactStartStateUptoRow, standIns := [], harness := (true, "f81a86364572b4d3f1df3faeb58a0d7370d86b2d67e9a825278ae0e1bb81d61c"), looks := true }, kinds := [], alts := [], laidByText := true, laidKinds := [.handle], laidTests := true, laidLooks := .later }
def FnExactStartStateUptoCardSaid : Prop := Claim7.holds Tryz.pinned (.plain (OpenSpec.upto fnExactStartStateSpec)) fnExactStartStateUptoCard

/-- THE SECOND FORM's CARD OF 'laws.FnExactStateFault'. -/
def fnExactStateFaultUptoCard : Claim7 := { stood := { row := fnExactStateFaultUptoRow, standIns := [], harness := (true, "f81a86364572b4d3f1df3faeb58a0d7370d86b2d67e9a825278ae0e1bb81d61c"), looks := true }, kinds := [], alts := [], laidByText := true, laidKinds := [.handle], laidTests := true, laidLooks := .later }
def FnExactStateFaultUptoCardSaid : Prop := Claim7.holds Tryz.pinned (.plain (OpenSpec.upto fnExactStateFaultSpec)) fnExactStateFaultUptoCard

/-- THE SECOND FORM's CARD OF 'laws.FnExactTempNames'. -/
def fnExactTempNamesUptoCard : Claim7 := { stood := { row := fnExactTempNamesUptoRow, standIns := [], harness := (true, "f81a86364572b4d3f1df3faeb58a0d7370d86b2d67e9a825278ae0e1bb81d61c"), looks := true }, kinds := [], alts := [], laidByText := true, laidKinds := [.handle], laidTests := true, laidLooks := .later }
def FnExactTempNamesUptoCardSaid : Prop := Claim7.holds Tryz.pinned (.plain (OpenSpec.upto fnExactTempNamesSpec)) fnExactTempNamesUptoCard

/-- THE SECOND FORM's CARD OF 'laws.FnExactOwnNames'. -/
def fnExactOwnNamesUptoCard : Claim7 := { stood := { row := fnExactOwnNamesUptoRow, standIns := [], harness := (true, "f81a86364572b4d3f1df3faeb58a0d7370d86b2d67e9a825278ae0e1bb81d61c"), looks := true }, kinds := [], alts := [], laidByText := true, laidKinds := [.handle], laidTests := true, laidLooks := .later }
def FnExactOwnNamesUptoCardSaid : Prop := Claim7.holds Tryz.pinned (.plain (OpenSpec.upto fnExactOwnNamesSpec)) fnExactOwnNamesUptoCard

/-- THE SECOND FORM's CARD OF 'laws.FnExactCompileStack'. -/
def fnExactCompileStackUptoCard : Claim7 := { stood := { row := fnExactCompileStackUptoRow, standIns := [], harness := (true, "f81a86364572b4d3f1df3faeb58a0d7370d86b2d67e9a825278ae0e1bb81d61c"), looks := true }, kinds := [], alts := [], laidByText := true, laidKinds := [.handle], laidTests := true, laidLooks := .later }
def FnExactCompileStackUptoCardSaid : Prop := Claim7.holds Tryz.pinned (.plain (OpenSpec.upto fnExactCompileStackSpec)) fnExactCompileStackUptoCard

/-- THE SECOND FORM's CARD OF 'laws.FnExactMarksOf'. -/
def fnExactMarksOfUptoCard : Claim7 := { stood := { row := fnExactMarksOfUptoRow, standIns := [], harness := (true, "f81a86364572b4d3f1df3faeb58a0d7370d86b2d67e9a825278ae0e1bb81d61c"), looks := true }, kinds := [], alts := [], laidByText := true, laidKinds := [.handle], laidTests := true, laidLooks := .later }
def FnExactMarksOfUptoCardSaid : Prop := Claim7.holds Tryz.pinned (.plain (OpenSpec.upto fnExactMarksOfSpec)) fnExactMarksOfUptoCard

/-- THE SECOND FORM's CARD OF 'laws.FnExactLatchInputs'. -/
def fnExactLatchInputsUptoCard : Claim7 := { stood := { row := fnExactLatchInputsUptoRow, standIns := [], harness := (true, "f81a86364572b4d3f1df3faeb58a0d7370d86b2d67e9a825278ae0e1bb81d61c"), looks := true }, kinds := [], alts := [], laidByText := true, laidKinds := [.handle], laidTests := true, laidLooks := .later }
def FnExactLatchInputsUptoCardSaid : Prop := Claim7.holds Tryz.pinned (.plain (OpenSpec.upto fnExactLatchInputsSpec)) fnExactLatchInputsUptoCard

/-- THE SECOND FORM's CARD OF 'laws.FnExactOutsOf'. -/
def fnExactOutsOfUptoCard : Claim7 := { stood := { row := fnExactOutsOfUptoRow, standIns := [], harness := (true, "f81a86364572b4d3f1df3faeb58a0d7370d86b2d67e9a825278ae0e1bb81d61c"), looks := true }, kinds := [], alts := [], laidByText := true, laidKinds := [.handle], laidTests := true, laidLooks := .later }
def FnExactOutsOfUptoCardSaid : Prop := Claim7.holds Tryz.pinned (.plain (OpenSpec.upto fnExactOutsOfSpec)) fnExactOutsOfUptoCard
end Rows
end Go.Proofs.YtcecfmdjicjngaaGreatDoor
