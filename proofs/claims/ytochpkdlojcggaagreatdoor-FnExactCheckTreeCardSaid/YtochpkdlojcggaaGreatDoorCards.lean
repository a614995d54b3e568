/-
  DERIVED. GIVEN WITH THE SEED: THE CARDS: each row of YtochpkdlojcggaaGreatDoorRows.lean that lists a variable, with what it lists TIED to the program's text (the seventh form; the later family's looks); each row that meets fmt, with fmt's text TOLD by the authors' own Lean function (tested against real Go, not proved from fmt's source: count such statements apart). THE CARD IS WHAT COUNTS. Prove the row's statement (the work); the ties are given (YtochpkdlojcggaaGreatDoorTie.lean); close each card by the builder's one call (the guide's Derived/Test/ToyasCard.lean, 'card_holds'). Laid BY PROGRAM, IN A SANDBOX (cutbox-door.mjs). By AI agents, Wed Nov 11 2026. No macro, syntax, notation, axiom, sorry.
-/
import Derived.Test.YtochpkdlojcggaaGreatDoorRows
import GoSem.ClaimSeven
namespace Go.Proofs.YtochpkdlojcggaaGreatDoor
namespace Rows

/-- THE TIED CARD OF 'laws.FnExactCheckTree'. -/
def fnExactCheckTreeCard : Claim7 := { stood := { row := fnExactCheckTreeRow, standIns := [], harness := (true, "b94c3cddf0a0f7cd876334092092bc98b1d9675284521ca4282768ec18890048"), looks := true }, kinds := [], alts := [], laidByText := true, laidKinds := [.handle], laidTests := true, laidLooks := .later }
def FnExactCheckTreeCardSaid : Prop := Claim7.holds Tryz.pinned (.plain (OpenSpec.ofChange fnExactCheckTreeSpec)) fnExactCheckTreeCard

/-- THE TIED CARD OF 'laws.FnExactStartState'. -/
def fnExactStartStateCard : Claim7 := { stood := { row := fnExactStartStateRow, standIns := [], harness := (true, "b94c3cddf0a0f7cd876334092092bc98b1d9675284521ca4282768ec18890048"), looks := true }, kinds := [], alts := [], laidByText := true, laidKinds := [.handle], laidTests := true, laidLooks := .later }
def FnExactStartStateCardSaid : Prop := Claim7.holds Tryz.pinned (.plain (OpenSpec.ofChange fnExactStartStateSpec)) fnExactStartStateCard

/-- THE TIED CARD OF 'laws.FnExactStateFault'. -/
def fnExactStateFaultCard : Claim7 := { stood := { row := fnExactStateFaultRow, standIns := [], harness := (true, "b94c3cddf0a0f7cd876334092092bc98b1d9675284521ca4282768ec18890048"), looks := true }, kinds := [], alts := [], laidByText := true, laidKinds := [.handle], laidTests := true, laidLooks := .later }
def FnExactStateFaultCardSaid : Prop := Claim7.holds Tryz.pinned (.plain (OpenSpec.ofChange fnExactStateFaultSpec)) fnExactStateFaultCard

/-- THE SECOND FORM's CARD OF 'laws.FnExactCheckTree'. -/
def fnExactCheckTreeUptoCard : Claim7 := { stood := { row := fnExactCheckTreeUptoRow, standIns := [], harness := (true, "b94c3cddf0a0f7cd876334092092bc98b1d9675284521ca4282768ec18890048"), looks := true }, kinds := [], alts := [], laidByText := true, laidKinds := [.handle], laidTests := true, laidLooks := .later }
def FnExactCheckTreeUptoCardSaid : Prop := Claim7.holds Tryz.pinned (.plain (OpenSpec.upto fnExactCheckTreeSpec)) fnExactCheckTreeUptoCard

/-- THE SECOND FORM's CARD OF 'laws.FnExactStartState'. -/
def fnExactStartStateUptoCard : Claim7 := { stood := { row := fnExactStartStateUptoRow, standIns := [], harness := (true, "b94c3cddf0a0f7cd876334092092bc98b1d9675284521ca4282768ec18890048"), looks := true }, kinds := [], alts := [], laidByText := true, laidKinds := [.handle], laidTests := true, laidLooks := .later }
def FnExactStartStateUptoCardSaid : Prop := Claim7.holds Tryz.pinned (.plain (OpenSpec.upto fnExactStartStateSpec)) fnExactStartStateUptoCard

/-- THE SECOND FORM's CARD OF 'laws.FnExactStateFault'. -/
def fnExactStateFaultUptoCard : Claim7 := { stood := { row := fnExactStateFaultUptoRow, standIns := [], harness := (true, "b94c3cddf0a0f7cd876334092092bc98b1d9675284521ca4282768ec18890048"), looks := true }, kinds := [], alts := [], laidByText := true, laidKinds := [.handle], laidTests := true, laidLooks := .later }
def FnExactStateFaultUptoCardSaid : Prop := Claim7.holds Tryz.pinned (.plain (OpenSpec.upto fnExactStateFaultSpec)) fnExactStateFaultUptoCard
end Rows
end Go.Proofs.YtochpkdlojcggaaGreatDoor
