/-
  No cell of these rows narrows 'for every input' (looked for: loops, veiled, ifaces, maps, wideKeys, modest, calm, conditions, laid).
  DERIVED. THE GIVEN ROWS OF THIS SEAT. 12 by the template 'for every input the law returns true; each argument reads behind the call as it read before'; 0 by the template 'total and deterministic' (their statements: YtcikofhbfncgdaaTotals.lean).
  GIVEN WITH THE SEED: the statements are not yours to turn. If you find one false, say at which input.
  Laid BY PROGRAM, IN A SANDBOX (cutbox-rows.mjs): the forced cells as the released guide's own fill.sh prints them over the translation 734d1b7e64d2bc89… (all of the seat's roots in one cut). By AI agents, Wed Nov 11 2026. No macro, syntax, notation, axiom, sorry.
-/
import Derived.Test.YtcikofhbfncgdaaChecked
import GoSem.Claim
import GoSem.ClaimJoined
import GoSem.ClaimMapViews
import Derived.JoinedTies
import Derived.KernelRfl
namespace Go.Proofs.Ytcikofhbfncgdaa
/- THE CELL 'sum', in the pinned program and in every row, IS THE sha256 OF THE DUMP (.gsa) THAT YtcikofhbfncgdaaProg.lean LOADS. Nothing in Lean hashes anything: it is a label: what it is worth is what the hold of that sum in a sandbox is worth. -/
noncomputable def Try.pinned : Pinned := { name := "ytcikofhbfncgdaa", sum := "734d1b7e64d2bc891baa38b09ab940c2e58f293f4b5fc9752bacfe70ca26ac48", checked := Try.checked }
namespace Rows
def none {H : Type} : Left H := { results := [], args := [] }

/-- 'laws.FnRegisters': WHATEVER THE INPUT: true; the input reads as it did. -/
def fnRegistersSpec : ChangeSpec := { name := "fnRegisters", fn := fun _ => fun
  | [d] => { results := [.lit (.bool true)], args := [d] }
  | _ => none }
def fnRegistersRow : OpenClaim := { program := "ytcikofhbfncgdaa", sum := "734d1b7e64d2bc891baa38b09ab940c2e58f293f4b5fc9752bacfe70ca26ac48", func := "loop.example/g00251/laws.FnRegisters", spec := "fnRegisters", unfollowed := true, recurses := true, apart := false }
def FnRegistersSaid : Prop := fnRegistersRow.holds Try.pinned (OpenSpec.ofChange fnRegistersSpec)

/-- ITS FALSE NEIGHBOUR: 'it returns false'. Refute it at one input. -/
def fnRegistersWrong : ChangeSpec := { name := "fnRegisters", fn := fun _ => fun
  | [d] => { results := [.lit (.bool false)], args := [d] }
  | _ => none }
def FnRegistersWrongFalsely : Prop := fnRegistersRow.holds Try.pinned (OpenSpec.ofChange fnRegistersWrong)

/-- 'laws.FnSteps': WHATEVER THE INPUT: true; the input reads as it did. -/
def fnStepsSpec : ChangeSpec := { name := "fnSteps", fn := fun _ => fun
  | [d] => { results := [.lit (.bool true)], args := [d] }
  | _ => none }
def fnStepsRow : OpenClaim := { program := "ytcikofhbfncgdaa", sum := "734d1b7e64d2bc891baa38b09ab940c2e58f293f4b5fc9752bacfe70ca26ac48", func := "loop.example/g00251/laws.FnSteps", spec := "fnSteps", unfollowed := true, recurses := true, apart := false }
def FnStepsSaid : Prop := fnStepsRow.holds Try.pinned (OpenSpec.ofChange fnStepsSpec)

/-- ITS FALSE NEIGHBOUR: 'it returns false'. Refute it at one input. -/
def fnStepsWrong : ChangeSpec := { name := "fnSteps", fn := fun _ => fun
  | [d] => { results := [.lit (.bool false)], args := [d] }
  | _ => none }
def FnStepsWrongFalsely : Prop := fnStepsRow.holds Try.pinned (OpenSpec.ofChange fnStepsWrong)

/-- 'laws.FnExactRegFault': WHATEVER THE INPUT: true; the input reads as it did. -/
def fnExactRegFaultSpec : ChangeSpec := { name := "fnExactRegFault", fn := fun _ => fun
  | [d] => { results := [.lit (.bool true)], args := [d] }
  | _ => none }
def fnExactRegFaultRow : OpenClaim := { program := "ytcikofhbfncgdaa", sum := "734d1b7e64d2bc891baa38b09ab940c2e58f293f4b5fc9752bacfe70ca26ac48", func := "loop.example/g00251/laws.FnExactRegFault", spec := "fnExactRegFault", apart := false }
def FnExactRegFaultSaid : Prop := fnExactRegFaultRow.holds Try.pinned (OpenSpec.ofChange fnExactRegFaultSpec)

/-- ITS FALSE NEIGHBOUR: 'it returns false'. Refute it at one input. -/
def fnExactRegFaultWrong : ChangeSpec := { name := "fnExactRegFault", fn := fun _ => fun
  | [d] => { results := [.lit (.bool false)], args := [d] }
  | _ => none }
def FnExactRegFaultWrongFalsely : Prop := fnExactRegFaultRow.holds Try.pinned (OpenSpec.ofChange fnExactRegFaultWrong)

/-- 'laws.FnExactStartRegs': WHATEVER THE INPUT: true; the input reads as it did. -/
def fnExactStartRegsSpec : ChangeSpec := { name := "fnExactStartRegs", fn := fun _ => fun
  | [d] => { results := [.lit (.bool true)], args := [d] }
  | _ => none }
def fnExactStartRegsRow : OpenClaim := { program := "ytcikofhbfncgdaa", sum := "734d1b7e64d2bc891baa38b09ab940c2e58f293f4b5fc9752bacfe70ca26ac48", func := "loop.example/g00251/laws.FnExactStartRegs", spec := "fnExactStartRegs", apart := false }
def FnExactStartRegsSaid : Prop := fnExactStartRegsRow.holds Try.pinned (OpenSpec.ofChange fnExactStartRegsSpec)

/-- ITS FALSE NEIGHBOUR: 'it returns false'. Refute it at one input. -/
def fnExactStartRegsWrong : ChangeSpec := { name := "fnExactStartRegs", fn := fun _ => fun
  | [d] => { results := [.lit (.bool false)], args := [d] }
  | _ => none }
def FnExactStartRegsWrongFalsely : Prop := fnExactStartRegsRow.holds Try.pinned (OpenSpec.ofChange fnExactStartRegsWrong)

/-- 'laws.FnExactStepRegs': WHATEVER THE INPUT: true; the input reads as it did. -/
def fnExactStepRegsSpec : ChangeSpec := { name := "fnExactStepRegs", fn := fun _ => fun
  | [d1, d2] => { results := [.lit (.bool true)], args := [d1, d2] }
  | _ => none }
def fnExactStepRegsRow : OpenClaim := { program := "ytcikofhbfncgdaa", sum := "734d1b7e64d2bc891baa38b09ab940c2e58f293f4b5fc9752bacfe70ca26ac48", func := "loop.example/g00251/laws.FnExactStepRegs", spec := "fnExactStepRegs", unfollowed := true, recurses := true, apart := false }
def FnExactStepRegsSaid : Prop := fnExactStepRegsRow.holds Try.pinned (OpenSpec.ofChange fnExactStepRegsSpec)

/-- ITS FALSE NEIGHBOUR: 'it returns false'. Refute it at one input. -/
def fnExactStepRegsWrong : ChangeSpec := { name := "fnExactStepRegs", fn := fun _ => fun
  | [d1, d2] => { results := [.lit (.bool false)], args := [d1, d2] }
  | _ => none }
def FnExactStepRegsWrongFalsely : Prop := fnExactStepRegsRow.holds Try.pinned (OpenSpec.ofChange fnExactStepRegsWrong)

/-- 'laws.FnExactRunRegs': WHATEVER THE INPUT: true; the input reads as it did. -/
def fnExactRunRegsSpec : ChangeSpec := { name := "fnExactRunRegs", fn := fun _ => fun
  | [d1, d2, d3] => { results := [.lit (.bool true)], args := [d1, d2, d3] }
  | _ => none }
def fnExactRunRegsRow : OpenClaim := { program := "ytcikofhbfncgdaa", sum := "734d1b7e64d2bc891baa38b09ab940c2e58f293f4b5fc9752bacfe70ca26ac48", func := "loop.example/g00251/laws.FnExactRunRegs", spec := "fnExactRunRegs", unfollowed := true, recurses := true, apart := false }
def FnExactRunRegsSaid : Prop := fnExactRunRegsRow.holds Try.pinned (OpenSpec.ofChange fnExactRunRegsSpec)

/-- ITS FALSE NEIGHBOUR: 'it returns false'. Refute it at one input. -/
def fnExactRunRegsWrong : ChangeSpec := { name := "fnExactRunRegs", fn := fun _ => fun
  | [d1, d2, d3] => { results := [.lit (.bool false)], args := [d1, d2, d3] }
  | _ => none }
def FnExactRunRegsWrongFalsely : Prop := fnExactRunRegsRow.holds Try.pinned (OpenSpec.ofChange fnExactRunRegsWrong)

/-- 'laws.FnExactArgsOfRegs': WHATEVER THE INPUT: true; the input reads as it did. -/
def fnExactArgsOfRegsSpec : ChangeSpec := { name := "fnExactArgsOfRegs", fn := fun _ => fun
  | [d] => { results := [.lit (.bool true)], args := [d] }
  | _ => none }
def fnExactArgsOfRegsRow : OpenClaim := { program := "ytcikofhbfncgdaa", sum := "734d1b7e64d2bc891baa38b09ab940c2e58f293f4b5fc9752bacfe70ca26ac48", func := "loop.example/g00251/laws.FnExactArgsOfRegs", spec := "fnExactArgsOfRegs", apart := false }
def FnExactArgsOfRegsSaid : Prop := fnExactArgsOfRegsRow.holds Try.pinned (OpenSpec.ofChange fnExactArgsOfRegsSpec)

/-- ITS FALSE NEIGHBOUR: 'it returns false'. Refute it at one input. -/
def fnExactArgsOfRegsWrong : ChangeSpec := { name := "fnExactArgsOfRegs", fn := fun _ => fun
  | [d] => { results := [.lit (.bool false)], args := [d] }
  | _ => none }
def FnExactArgsOfRegsWrongFalsely : Prop := fnExactArgsOfRegsRow.holds Try.pinned (OpenSpec.ofChange fnExactArgsOfRegsWrong)

/-- 'laws.FnExactInvertAll': WHATEVER THE INPUT: true; the input reads as it did. -/
def fnExactInvertAllSpec : ChangeSpec := { name := "fnExactInvertAll", fn := fun _ => fun
  | [d] => { results := [.lit (.bool true)], args := [d] }
  | _ => none }
def fnExactInvertAllRow : OpenClaim := { program := "ytcikofhbfncgdaa", sum := "734d1b7e64d2bc891baa38b09ab940c2e58f293f4b5fc9752bacfe70ca26ac48", func := "loop.example/g00251/laws.FnExactInvertAll", spec := "fnExactInvertAll", apart := false }
def FnExactInvertAllSaid : Prop := fnExactInvertAllRow.holds Try.pinned (OpenSpec.ofChange fnExactInvertAllSpec)

/-- ITS FALSE NEIGHBOUR: 'it returns false'. Refute it at one input. -/
def fnExactInvertAllWrong : ChangeSpec := { name := "fnExactInvertAll", fn := fun _ => fun
  | [d] => { results := [.lit (.bool false)], args := [d] }
  | _ => none }
def FnExactInvertAllWrongFalsely : Prop := fnExactInvertAllRow.holds Try.pinned (OpenSpec.ofChange fnExactInvertAllWrong)

/-- 'laws.FnExactStackFault': WHATEVER THE INPUT: true; the input reads as it did. -/
def fnExactStackFaultSpec : ChangeSpec := { name := "fnExactStackFault", fn := fun _ => fun
  | [d] => { results := [.lit (.bool true)], args := [d] }
  | _ => none }
def fnExactStackFaultRow : OpenClaim := { program := "ytcikofhbfncgdaa", sum := "734d1b7e64d2bc891baa38b09ab940c2e58f293f4b5fc9752bacfe70ca26ac48", func := "loop.example/g00251/laws.FnExactStackFault", spec := "fnExactStackFault", apart := false }
def FnExactStackFaultSaid : Prop := fnExactStackFaultRow.holds Try.pinned (OpenSpec.ofChange fnExactStackFaultSpec)

/-- ITS FALSE NEIGHBOUR: 'it returns false'. Refute it at one input. -/
def fnExactStackFaultWrong : ChangeSpec := { name := "fnExactStackFault", fn := fun _ => fun
  | [d] => { results := [.lit (.bool false)], args := [d] }
  | _ => none }
def FnExactStackFaultWrongFalsely : Prop := fnExactStackFaultRow.holds Try.pinned (OpenSpec.ofChange fnExactStackFaultWrong)

/-- 'laws.FnExactStartStack': WHATEVER THE INPUT: true; the input reads as it did. -/
def fnExactStartStackSpec : ChangeSpec := { name := "fnExactStartStack", fn := fun _ => fun
  | [d] => { results := [.lit (.bool true)], args := [d] }
  | _ => none }
def fnExactStartStackRow : OpenClaim := { program := "ytcikofhbfncgdaa", sum := "734d1b7e64d2bc891baa38b09ab940c2e58f293f4b5fc9752bacfe70ca26ac48", func := "loop.example/g00251/laws.FnExactStartStack", spec := "fnExactStartStack", apart := false }
def FnExactStartStackSaid : Prop := fnExactStartStackRow.holds Try.pinned (OpenSpec.ofChange fnExactStartStackSpec)

/-- ITS FALSE NEIGHBOUR: 'it returns false'. Refute it at one input. -/
def fnExactStartStackWrong : ChangeSpec := { name := "fnExactStartStack", fn := fun _ => fun
  | [d] => { results := [.lit (.bool false)], args := [d] }
  | _ => none }
def FnExactStartStackWrongFalsely : Prop := fnExactStartStackRow.holds Try.pinned (OpenSpec.ofChange fnExactStartStackWrong)

/-- 'laws.FnExactStepStack': WHATEVER THE INPUT: true; the input reads as it did. -/
def fnExactStepStackSpec : ChangeSpec := { name := "fnExactStepStack", fn := fun _ => fun
  | [d1, d2] => { results := [.lit (.bool true)], args := [d1, d2] }
  | _ => none }
def fnExactStepStackRow : OpenClaim := { program := "ytcikofhbfncgdaa", sum := "734d1b7e64d2bc891baa38b09ab940c2e58f293f4b5fc9752bacfe70ca26ac48", func := "loop.example/g00251/laws.FnExactStepStack", spec := "fnExactStepStack", unfollowed := true, recurses := true, apart := false }
def FnExactStepStackSaid : Prop := fnExactStepStackRow.holds Try.pinned (OpenSpec.ofChange fnExactStepStackSpec)

/-- ITS FALSE NEIGHBOUR: 'it returns false'. Refute it at one input. -/
def fnExactStepStackWrong : ChangeSpec := { name := "fnExactStepStack", fn := fun _ => fun
  | [d1, d2] => { results := [.lit (.bool false)], args := [d1, d2] }
  | _ => none }
def FnExactStepStackWrongFalsely : Prop := fnExactStepStackRow.holds Try.pinned (OpenSpec.ofChange fnExactStepStackWrong)

/-- 'laws.FnExactRunStack': WHATEVER THE INPUT: true; the input reads as it did. -/
def fnExactRunStackSpec : ChangeSpec := { name := "fnExactRunStack", fn := fun _ => fun
  | [d1, d2, d3] => { results := [.lit (.bool true)], args := [d1, d2, d3] }
  | _ => none }
def fnExactRunStackRow : OpenClaim := { program := "ytcikofhbfncgdaa", sum := "734d1b7e64d2bc891baa38b09ab940c2e58f293f4b5fc9752bacfe70ca26ac48", func := "loop.example/g00251/laws.FnExactRunStack", spec := "fnExactRunStack", unfollowed := true, recurses := true, apart := false }
def FnExactRunStackSaid : Prop := fnExactRunStackRow.holds Try.pinned (OpenSpec.ofChange fnExactRunStackSpec)

/-- ITS FALSE NEIGHBOUR: 'it returns false'. Refute it at one input. -/
def fnExactRunStackWrong : ChangeSpec := { name := "fnExactRunStack", fn := fun _ => fun
  | [d1, d2, d3] => { results := [.lit (.bool false)], args := [d1, d2, d3] }
  | _ => none }
def FnExactRunStackWrongFalsely : Prop := fnExactRunStackRow.holds Try.pinned (OpenSpec.ofChange fnExactRunStackWrong)

/- THE SECOND FORM. 'bulk': how many values and letters a reading holds, each counted each time it is reached (what is shared counts as often as it is met; a slice's spare places count too). A statement '..UptoSaid' is the law's where the arguments, and the package variables that the reading takes, are together of bulk at most 1048576: NARROWER than '..Said'. Prove '..Said' where nothing that the law and all that it calls make is longer than what came in: it says more and counts as full. Else prove '..UptoSaid'. A law counts once. -/
mutual
def uptoBulk {H : Type} : DataW H → Nat
  | .lit (.string bytes) => bytes.length + 1
  | .lit _ => 1
  | .nil => 1
  | .ptr d => uptoBulk d + 1
  | .slice elems spare => uptoBulkAll elems + uptoBulkAll spare + 1
  | .agg parts => uptoBulkAll parts + 1
  | .iface _ d => uptoBulk d + 1
  | .map entries => uptoBulkEntries entries + 1
  | .held _ => 1
def uptoBulkAll {H : Type} : List (DataW H) → Nat
  | [] => 0
  | d :: r => uptoBulk d + uptoBulkAll r
def uptoBulkEntries {H : Type} : List (Lit × DataW H) → Nat
  | [] => 0
  | x :: r => uptoBulkEntry x + uptoBulkEntries r
def uptoBulkEntry {H : Type} : Lit × DataW H → Nat
  | (.string bytes, d) => bytes.length + uptoBulk d + 1
  | (_, d) => uptoBulk d + 1
 end
def uptoSmall : (H : Type) → List (DataW H) → Bool := fun _ ds => decide (uptoBulkAll ds ≤ 1048576)
def OpenSpec.upto (s : _root_.Go.ChangeSpec) : _root_.Go.OpenSpec := { _root_.Go.OpenSpec.ofChange s with cond := some uptoSmall }

/-- 'laws.FnRegisters', WHERE WHAT IT READS IS OF BULK AT MOST 1048576: true; the input reads as it did. -/
def fnRegistersUptoRow : OpenClaim := { program := "ytcikofhbfncgdaa", sum := "734d1b7e64d2bc891baa38b09ab940c2e58f293f4b5fc9752bacfe70ca26ac48", func := "loop.example/g00251/laws.FnRegisters", spec := "fnRegisters", unfollowed := true, recurses := true, apart := false, narrowed := true }
def FnRegistersUptoSaid : Prop := fnRegistersUptoRow.holds Try.pinned (OpenSpec.upto fnRegistersSpec)

/-- 'laws.FnSteps', WHERE WHAT IT READS IS OF BULK AT MOST 1048576: true; the input reads as it did. -/
def fnStepsUptoRow : OpenClaim := { program := "ytcikofhbfncgdaa", sum := "734d1b7e64d2bc891baa38b09ab940c2e58f293f4b5fc9752bacfe70ca26ac48", func := "loop.example/g00251/laws.FnSteps", spec := "fnSteps", unfollowed := true, recurses := true, apart := false, narrowed := true }
def FnStepsUptoSaid : Prop := fnStepsUptoRow.holds Try.pinned (OpenSpec.upto fnStepsSpec)

/-- 'laws.FnExactRegFault', WHERE WHAT IT READS IS OF BULK AT MOST 1048576: true; the input reads as it did. -/
def fnExactRegFaultUptoRow : OpenClaim := { program := "ytcikofhbfncgdaa", sum := "734d1b7e64d2bc891baa38b09ab940c2e58f293f4b5fc9752bacfe70ca26ac48", func := "loop.example/g00251/laws.FnExactRegFault", spec := "fnExactRegFault", apart := false, narrowed := true }
def FnExactRegFaultUptoSaid : Prop := fnExactRegFaultUptoRow.holds Try.pinned (OpenSpec.upto fnExactRegFaultSpec)

/-- 'laws.FnExactStartRegs', WHERE WHAT IT READS IS OF BULK AT MOST 1048576: true; the input reads as it did. -/
def fnExactStartRegsUptoRow : OpenClaim := { program := "ytcikofhbfncgdaa", sum := "734d1b7e64d2bc891baa38b09ab940c2e58f293f4b5fc9752bacfe70ca26ac48", func := "loop.example/g00251/laws.FnExactStartRegs", spec := "fnExactStartRegs", apart := false, narrowed := true }
def FnExactStartRegsUptoSaid : Prop := fnExactStartRegsUptoRow.holds Try.pinned (OpenSpec.upto fnExactStartRegsSpec)

/-- 'laws.FnExactStepRegs', WHERE WHAT IT READS IS OF BULK AT MOST 1048576: true; the input reads as it did. -/
def fnExactStepRegsUptoRow : OpenClaim := { program := "ytcikofhbfncgdaa", sum := "734d1b7e64d2bc891baa38b09ab940c2e58f293f4b5fc9752bacfe70ca26ac48", func := "loop.example/g00251/laws.FnExactStepRegs", spec := "fnExactStepRegs", unfollowed := true, recurses := true, apart := false, narrowed := true }
def FnExactStepRegsUptoSaid : Prop := fnExactStepRegsUptoRow.holds Try.pinned (OpenSpec.upto fnExactStepRegsSpec)

/-- 'laws.FnExactRunRegs', WHERE WHAT IT READS IS OF BULK AT MOST 1048576: true; the input reads as it did. -/
def fnExactRunRegsUptoRow : OpenClaim := { program := "ytcikofhbfncgdaa", sum := "734d1b7e64d2bc891baa38b09ab940c2e58f293f4b5fc9752bacfe70ca26ac48", func := "loop.example/g00251/laws.FnExactRunRegs", spec := "fnExactRunRegs", unfollowed := true, recurses := true, apart := false, narrowed := true }
def FnExactRunRegsUptoSaid : Prop := fnExactRunRegsUptoRow.holds Try.pinned (OpenSpec.upto fnExactRunRegsSpec)

/-- 'laws.FnExactArgsOfRegs', WHERE WHAT IT READS IS OF BULK AT MOST 1048576: true; the input reads as it did. -/
def fnExactArgsOfRegsUptoRow : OpenClaim := { program := "ytcikofhbfncgdaa", sum := "734d1b7e64d2bc891baa38b09ab940c2e58f293f4b5fc9752bacfe70ca26ac48", func := "loop.example/g00251/laws.FnExactArgsOfRegs", spec := "fnExactArgsOfRegs", apart := false, narrowed := true }
def FnExactArgsOfRegsUptoSaid : Prop := fnExactArgsOfRegsUptoRow.holds Try.pinned (OpenSpec.upto fnExactArgsOfRegsSpec)

/-- 'laws.FnExactInvertAll', WHERE WHAT IT READS IS OF BULK AT MOST 1048576: true; the input reads as it did. -/
def fnExactInvertAllUptoRow : OpenClaim := { program := "ytcikofhbfncgdaa", sum := "734d1b7e64d2bc891baa38b09ab940c2e58f293f4b5fc9752bacfe70ca26ac48", func := "loop.example/g00251/laws.FnExactInvertAll", spec := "fnExactInvertAll", apart := false, narrowed := true }
def FnExactInvertAllUptoSaid : Prop := fnExactInvertAllUptoRow.holds Try.pinned (OpenSpec.upto fnExactInvertAllSpec)

/-- 'laws.FnExactStackFault', WHERE WHAT IT READS IS OF BULK AT MOST 1048576: true; the input reads as it did. -/
def fnExactStackFaultUptoRow : OpenClaim := { program := "ytcikofhbfncgdaa", sum := "734d1b7e64d2bc891baa38b09ab940c2e58f293f4b5fc9752bacfe70ca26ac48", func := "loop.example/g00251/laws.FnExactStackFault", spec := "fnExactStackFault", apart := false, narrowed := true }
def FnExactStackFaultUptoSaid : Prop := fnExactStackFaultUptoRow.holds Try.pinned (OpenSpec.upto fnExactStackFaultSpec)

/-- 'laws.FnExactStartStack', WHERE WHAT IT READS IS OF BULK AT MOST 1048576: true; the input reads as it did. -/
def fnExactStartStackUptoRow : OpenClaim := { program := "ytcikofhbfncgdaa", sum := "734d1b7e64d2bc891baa38b09ab940c2e58f293f4b5fc9752bacfe70ca26ac48", func := "loop.example/g00251/laws.FnExactStartStack", spec := "fnExactStartStack", apart := false, narrowed := true }
def FnExactStartStackUptoSaid : Prop := fnExactStartStackUptoRow.holds Try.pinned (OpenSpec.upto fnExactStartStackSpec)

/-- 'laws.FnExactStepStack', WHERE WHAT IT READS IS OF BULK AT MOST 1048576: true; the input reads as it did. -/
def fnExactStepStackUptoRow : OpenClaim := { program := "ytcikofhbfncgdaa", sum := "734d1b7e64d2bc891baa38b09ab940c2e58f293f4b5fc9752bacfe70ca26ac48", func := "loop.example/g00251/laws.FnExactStepStack", spec := "fnExactStepStack", unfollowed := true, recurses := true, apart := false, narrowed := true }
def FnExactStepStackUptoSaid : Prop := fnExactStepStackUptoRow.holds Try.pinned (OpenSpec.upto fnExactStepStackSpec)

/-- 'laws.FnExactRunStack', WHERE WHAT IT READS IS OF BULK AT MOST 1048576: true; the input reads as it did. -/
def fnExactRunStackUptoRow : OpenClaim := { program := "ytcikofhbfncgdaa", sum := "734d1b7e64d2bc891baa38b09ab940c2e58f293f4b5fc9752bacfe70ca26ac48", func := "loop.example/g00251/laws.FnExactRunStack", spec := "fnExactRunStack", unfollowed := true, recurses := true, apart := false, narrowed := true }
def FnExactRunStackUptoSaid : Prop := fnExactRunStackUptoRow.holds Try.pinned (OpenSpec.upto fnExactRunStackSpec)

end Rows
end Go.Proofs.Ytcikofhbfncgdaa
