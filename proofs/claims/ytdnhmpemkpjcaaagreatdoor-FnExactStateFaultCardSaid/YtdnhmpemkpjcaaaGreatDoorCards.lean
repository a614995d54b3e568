/-
  DERIVED. GIVEN WITH THE SEED: THE CARDS: each row of YtdnhmpemkpjcaaaGreatDoorRows.lean that lists a variable, with what it lists TIED to the program's text (the seventh form; the later family's looks); each row that meets fmt, with fmt's text TOLD by the authors' own Lean function (tested against real Go, not proved from fmt's source: count such statements apart). THE CARD IS WHAT COUNTS. Prove the row's statement (the work); the ties are given (YtdnhmpemkpjcaaaGreatDoorTie.lean); close each card by the builder's one call (the guide's Derived/Test/ToyasCard.lean, 'card_holds'). Laid BY PROGRAM, IN A SANDBOX (cutbox-door.mjs). By AI agents, Wed Nov 11 2026. No macro, syntax, notation, axiom, sorry.
-/
import Derived.Test.YtdnhmpemkpjcaaaGreatDoorRows
import GoSem.ClaimSeven
namespace Go.Proofs.YtdnhmpemkpjcaaaGreatDoor
namespace Rows

/-- THE TIED CARD OF 'laws.FnCellsApart'. -/
def fnCellsApartCard : Claim7 := { stood := { row := fnCellsApartRow, standIns := [], harness := (true, "e1e2a1f86a8c58944c45a411747c80823a0cdae8089712c582ce54c0aecb55df"), looks := true }, kinds := [], alts := [], laidByText := true, laidKinds := [.handle], laidTests := true, laidLooks := .later }
def FnCellsApartCardSaid : Prop := Claim7.holds Tryz.pinned (.plain (OpenSpec.ofChange fnCellsApartSpec)) fnCellsApartCard

/-- THE TIED CARD OF 'laws.FnExactTypeOf'. -/
def fnExactTypeOfCard : Claim7 := { stood := { row := fnExactTypeOfRow, standIns := [], harness := (true, "e1e2a1f86a8c58944c45a411747c80823a0cdae8089712c582ce54c0aecb55df"), looks := true }, kinds := [], alts := [], laidByText := true, laidKinds := [.handle], laidTests := true, laidLooks := .later }
def FnExactTypeOfCardSaid : Prop := Claim7.holds Tryz.pinned (.plain (OpenSpec.ofChange fnExactTypeOfSpec)) fnExactTypeOfCard

/-- THE TIED CARD OF 'laws.FnExactCheckTree'. -/
def fnExactCheckTreeCard : Claim7 := { stood := { row := fnExactCheckTreeRow, standIns := [], harness := (true, "e1e2a1f86a8c58944c45a411747c80823a0cdae8089712c582ce54c0aecb55df"), looks := true }, kinds := [], alts := [], laidByText := true, laidKinds := [.handle], laidTests := true, laidLooks := .later }
def FnExactCheckTreeCardSaid : Prop := Claim7.holds Tryz.pinned (.plain (OpenSpec.ofChange fnExactCheckTreeSpec)) fnExactCheckTreeCard

/-- THE TIED CARD OF 'laws.FnExactStartState'. -/
def fnExactStartStateCard : Claim7 := { stood := { row := fnExactStartStateRow, standIns := [], harness := (true, "e1e2a1f86a8c58944c45a411747c80823a0cdae8089712c582ce54c0aecb55df"), looks := true }, kinds := [], alts := [], laidByText := true, laidKinds := [.handle], laidTests := true, laidLooks := .later }
def FnExactStartStateCardSaid : Prop := Claim7.holds Tryz.pinned (.plain (OpenSpec.ofChange fnExactStartStateSpec)) fnExactStartStateCard

/-- THE TIED CARD OF 'laws.FnExactStateFault'. -/
def fnExactStateFaultCard : Claim7 := { stood := { row := fnExactStateFaultRow, standIns := [], harness := (true, "e1e2a1f86a8c58944c45a411747c80823a0cdae8089712c582ce54c0aecb55df"), looks := true }, kinds := [], alts := [], laidByText := true, laidKinds := [.handle], laidTests := true, laidLooks := .later }
def FnExactStateFaultCardSaid : Prop := Claim7.holds Tryz.pinned (.plain (OpenSpec.ofChange fnExactStateFaultSpec)) fnExactStateFaultCard

/-- THE TIED CARD OF 'laws.FnExactTempNames'. -/
def fnExactTempNamesCard : Claim7 := { stood := { row := fnExactTempNamesRow, standIns := [], harness := (true, "e1e2a1f86a8c58944c45a411747c80823a0cdae8089712c582ce54c0aecb55df"), looks := true }, kinds := [], alts := [], laidByText := true, laidKinds := [.handle], laidTests := true, laidLooks := .later }
def FnExactTempNamesCardSaid : Prop := Claim7.holds Tryz.pinned (.plain (OpenSpec.ofChange fnExactTempNamesSpec)) fnExactTempNamesCard

/-- THE TIED CARD OF 'laws.FnExactOwnNames'. -/
def fnExactOwnNamesCard : Claim7 := { stood := { row := fnExactOwnNamesRow, standIns := [], harness := (true, "e1e2a1f86a8c58944c45a411747c80823a0cdae8089712c582ce54c0aecb55df"), looks := true }, kinds := [], alts := [], laidByText := true, laidKinds := [.handle], laidTests := true, laidLooks := .later }
def FnExactOwnNamesCardSaid : Prop := Claim7.holds Tryz.pinned (.plain (OpenSpec.ofChange fnExactOwnNamesSpec)) fnExactOwnNamesCard

/-- THE SECOND FORM's CARD OF 'laws.FnCellsApart'. -/
def fnCellsApartUptoCard : Claim7 := { stood := { row := fnCellsApartUptoRow, standIns := [], harness := (true, "e1e2a1f86a8c58944c45a411747c80823a0cdae8089712c582ce54c0aecb55df"), looks := true }, kinds := [], alts := [], laidByText := true, laidKinds := [.handle], laidTests := true, laidLooks := .later }
def FnCellsApartUptoCardSaid : Prop := Claim7.holds Tryz.pinned (.plain (OpenSpec.upto fnCellsApartSpec)) fnCellsApartUptoCard

/-- THE SECOND FORM's CARD OF 'laws.FnExactTypeOf'. -/
def fnExactTypeOfUptoCard : Claim7 := { stood := { row := fnExactTypeOfUptoRow, standIns := [], harness := (true, "e1e2a1f86a8c58944c45a411747c80823a0cdae8089712c582ce54c0aecb55df"), looks := true }, kinds := [], alts := [], laidByText := true, laidKinds := [.handle], laidTests := true, laidLooks := .later }
def FnExactTypeOfUptoCardSaid : Prop := Claim7.holds Tryz.pinned (.plain (OpenSpec.upto fnExactTypeOfSpec)) fnExactTypeOfUptoCard

/-- THE SECOND FORM's CARD OF 'laws.FnExactCheckTree'. -/
def fnExactCheckTreeUptoCard : Claim7 := { stood := { row := fnExactCheckTreeUptoRow, standIns := [], harness := (true, "e1e2a1f86a8c58944c45a411747c80823a0cdae8089712c582ce54c0aecb55df"), looks := true }, kinds := [], alts := [], laidByText := true, laidKinds := [.handle], laidTests := true, laidLooks := .later }
def FnExactCheckTreeUptoCardSaid : Prop := Claim7.holds Tryz.pinned (.plain (OpenSpec.upto fnExactCheckTreeSpec)) fnExactCheckTreeUptoCard

/-- THE SECOND FORM's CARD OF 'laws.FnExactStartState'. -/
def fnExactStartStateUptoCard : Claim7 := { stood := { row := fnExactStartStateUptoRow, standIns := [], harness := (true, "e1e2a1f86a8c58944c45a411747c80823a0cdae8089712c582ce54c0aecb55df"), looks := true }, kinds := [], alts := [], laidByText := true, laidKinds := [.handle], laidTests := true, laidLooks := .later }
def FnExactStartStateUptoCardSaid : Prop := Claim7.holds Tryz.pinned (.plain (OpenSpec.upto fnExactStartStateSpec)) fnExactStartStateUptoCard

/-- THE SECOND FORM's CARD OF 'laws.FnExactStateFault'. -/
def fnExactStateFaultUptoCard : Claim7 := { stood := { row := fnExactStateFaultUptoRow, standIns := [], harness := (true, "e1e2a1f86a8c58944c45a411747c80823a0cdae8089712c582ce54c0aecb55df"), looks := true }, kinds := [], alts := [], laidByText := true, laidKinds := [.handle], laidTests := true, laidLooks := .later }
def FnExactStateFaultUptoCardSaid : Prop := Claim7.holds Tryz.pinned (.plain (OpenSpec.upto fnExactStateFaultSpec)) fnExactStateFaultUptoCard

/-- THE SECOND FORM's CARD OF 'laws.FnExactTempNames'. -/
def fnExactTempNamesUptoCard : Claim7 := { stood := { row := fnExactTempNamesUptoRow, standIns := [], harness := (true, "e1e2a1f86a8c58944c45a411747c80823a0cdae8089712c582ce54c0aecb55df"), looks := true }, kinds := [], alts := [], laidByText := true, laidKinds := [.handle], laidTests := true, laidLooks := .later }
def FnExactTempNamesUptoCardSaid : Prop := Claim7.holds Tryz.pinned (.plain (OpenSpec.upto fnExactTempNamesSpec)) fnExactTempNamesUptoCard

/-- THE SECOND FORM's CARD OF 'laws.FnExactOwnNames'. -/
def fnExactOwnNamesUptoCard : Claim7 := { stood := { row := fnExactOwnNamesUptoRow, standIns := [], harness := (true, "e1e2a1f86a8c58944c45a411747c80823a0cdae8089712c582ce54c0aecb55df"), looks := true }, kinds := [], alts := [], laidByText := true, laidKinds := [.handle], laidTests := true, laidLooks := .later }
def FnExactOwnNamesUptoCardSaid : Prop := Claim7.holds Tryz.pinned (.plain (OpenSpec.upto fnExactOwnNamesSpec)) fnExactOwnNamesUptoCard
end Rows
end Go.Proofs.YtdnhmpemkpjcaaaGreatDoor
