/-
  DERIVED. GIVEN WITH THE SEED: THE CARDS: each row of YtepjaoapjpmjkaaGreatDoorRows.lean that lists a variable, with what it lists TIED to the program's text (the seventh form; the later family's looks); each row that meets fmt, with fmt's text TOLD by the authors' own Lean function (tested against real Go, not proved from fmt's source: count such statements apart). THE CARD IS WHAT COUNTS. Prove the row's statement (the work); the ties are given (YtepjaoapjpmjkaaGreatDoorTie.lean); close each card by the builder's one call (the guide's Derived/Test/ToyasCard.lean, 'card_holds'). Laid BY PROGRAM, IN A SANDBOX (cutbox-door.mjs). By AI agents, Wed Nov 11 2026. No macro, syntax, notation, axiom, sorry.
-/
import Derived.Test.YtepjaoapjpmjkaaGreatDoorRows
import GoSem.ClaimSeven
namespace Go.Proofs.YtepjaoapjpmjkaaGreatDoor
namespace Rows

/-- THE TIED CARD OF 'laws.FnExactTypeOf'. -/
def fnExactTypeOfCard : Claim7 := { stood := { row := fnExactTypeOfRow, standIns := [], harness := (true, "a9fc4880c21fb258faa95d273546a4b1c69636a5e7a8b3d1769f8a32177bb6de"), looks := true }, kinds := [], alts := [], laidByText := true, laidKinds := [.handle], laidTests := true, laidLooks := .later }
def FnExactTypeOfCardSaid : Prop := Claim7.holds Tryz.pinned (.plain (OpenSpec.ofChange fnExactTypeOfSpec)) fnExactTypeOfCard

/-- THE TIED CARD OF 'laws.FnExactCheckTree'. -/
def fnExactCheckTreeCard : Claim7 := { stood := { row := fnExactCheckTreeRow, standIns := [], harness := (true, "a9fc4880c21fb258faa95d273546a4b1c69636a5e7a8b3d1769f8a32177bb6de"), looks := true }, kinds := [], alts := [], laidByText := true, laidKinds := [.handle], laidTests := true, laidLooks := .later }
def FnExactCheckTreeCardSaid : Prop := Claim7.holds Tryz.pinned (.plain (OpenSpec.ofChange fnExactCheckTreeSpec)) fnExactCheckTreeCard

/-- THE TIED CARD OF 'laws.FnExactStartState'. -/
def fnExactStartStateCard : Claim7 := { stood := { row := fnExactStartStateRow, standIns := [], harness := (true, "a9fc4880c21fb258faa95d273546a4b1c69636a5e7a8b3d1769f8a32177bb6de"), looks := true }, kinds := [], alts := [], laidByText := true, laidKinds := [.handle], laidTests := true, laidLooks := .later }
def FnExactStartStateCardSaid : Prop := Claim7.holds Tryz.pinned (.plain (OpenSpec.ofChange fnExactStartStateSpec)) fnExactStartStateCard

/-- THE TIED CARD OF 'laws.FnExactStateFault'. -/
def fnExactStateFaultCard : Claim7 := { stood := { row := fnExactStateFaultRow, standIns := [], harness := (true, "a9fc4880c21fb258faa95d273546a4b1c69636a5e7a8b3d1769f8a32177bb6de"), looks := true }, kinds := [], alts := [], laidByText := true, laidKinds := [.handle], laidTests := true, laidLooks := .later }
def FnExactStateFaultCardSaid : Prop := Claim7.holds Tryz.pinned (.plain (OpenSpec.ofChange fnExactStateFaultSpec)) fnExactStateFaultCard

/-- THE SECOND FORM's CARD OF 'laws.FnExactTypeOf'. -/
def fnExactTypeOfUptoCard : Claim7 := { stood := { row := fnExactTypeOfUptoRow, standIns := [], harness := (true, "a9fc4880c21fb258faa95d273546a4b1c69636a5e7a8b3d1769f8a32177bb6de"), looks := true }, kinds := [], alts := [], laidByText := true, laidKinds := [.handle], laidTests := true, laidLooks := .later }
def FnExactTypeOfUptoCardSaid : Prop := Claim7.holds Tryz.pinned (.plain (OpenSpec.upto fnExactTypeOfSpec)) fnExactTypeOfUptoCard

/-- THE SECOND FORM's CARD OF 'laws.FnExactCheckTree'. -/
def fnExactCheckTreeUptoCard : Claim7 := { stood := { row := fnExactCheckTreeUptoRow, standIns := [], harness := (true, "a9fc4880c21fb258faa95d273546a4b1c69636a5e7a8b3d1769f8a32177bb6de"), looks := true }, kinds := [], alts := [], laidByText := true, laidKinds := [.handle], laidTests := true, laidLooks := .later }
def FnExactCheckTreeUptoCardSaid : Prop := Claim7.holds Tryz.pinned (.plain (OpenSpec.upto fnExactCheckTreeSpec)) fnExactCheckTreeUptoCard

/-- THE SECOND FORM's CARD OF 'laws.FnExactStartState'. -/
def fnExactStartStateUptoCard : Claim7 := { stood := { row := fnExactStartStateUptoRow, standIns := [], harness := (true, "a9fc4880c21fb258faa95d273546a4b1c69636a5e7a8b3d1769f8a32177bb6de"), looks := true }, kinds := [], alts := [], laidByText := true, laidKinds := [.handle], laidTests := true, laidLooks := .later }
def FnExactStartStateUptoCardSaid : Prop := Claim7.holds Tryz.pinned (.plain (OpenSpec.upto fnExactStartStateSpec)) fnExactStartStateUptoCard

/-- THE SECOND FORM's CARD OF 'laws.FnExactStateFault'. -/
def fnExactStateFaultUptoCard : Claim7 := { stood := { row := fnExactStateFaultUptoRow, standIns := [], harness := (true, "a9fc4880c21fb258faa95d273546a4b1c69636a5e7a8b3d1769f8a32177bb6de"), looks := true }, kinds := [], alts := [], laidByText := true, laidKinds := [.handle], laidTests := true, laidLooks := .later }
def FnExactStateFaultUptoCardSaid : Prop := Claim7.holds Tryz.pinned (.plain (OpenSpec.upto fnExactStateFaultSpec)) fnExactStateFaultUptoCard
end Rows
end Go.Proofs.YtepjaoapjpmjkaaGreatDoor
