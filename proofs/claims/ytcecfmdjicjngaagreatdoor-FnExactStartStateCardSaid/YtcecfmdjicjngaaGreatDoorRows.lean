/-
  NARROWER THAN 'FOR EVERY INPUT', by the rows' own cells (each row's printed sentence says how): FnChecks: laid · FnCellsApart: laid · FnLatches: laid · FnExactCheckTree: laid · FnExactStartState: laid · FnExactStateFault: laid · FnExactTempNames: laid · FnExactOwnNames: laid · FnExactCompileStack: laid · FnExactMarksOf: laid · FnExactLatchInputs: laid · FnExactOutsOf: laid.
  DERIVED. THE GIVEN ROWS OF THIS SEAT. 12 by the template 'for every input the law returns true; each argument reads behind the call as it read before'; 0 by the template 'total and deterministic' (their statements: YtcecfmdjicjngaaGreatDoorTotals.lean).
  GIVEN WITH THE SEED: the statements are not yours to turn. If you find one false, say at which input.
  Laid BY PROGRAM, IN A SANDBOX (cutbox-rows.mjs): the forced cells as the released guide's own fill.sh prints them over the translation 645a26e91c3c52b1… (all of the seat's roots in one cut). By AI agents, Wed Nov 11 2026. No macro, syntax, notation, axiom, sorry.
-/
import Derived.Test.YtcecfmdjicjngaaGreatDoorChecked
import GoSem.Claim
import GoSem.ClaimJoined
import GoSem.ClaimMapViews
import Derived.JoinedTies
import Derived.KernelRfl
namespace Go.Proofs.YtcecfmdjicjngaaGreatDoor
/- THE CELL 'sum', in the pinned program and in every row, IS THE sha256 OF THE DUMP (.gsa) THAT YtcecfmdjicjngaaGreatDoorProg.lean LOADS. Nothing in Lean hashes anything: it is a label: what it is worth is what the hold of that sum in a sandbox is worth. -/
noncomputable def Tryz.pinned : Pinned := { name := "ytcecfmdjicjngaagreatdoor", sum := "645a26e91c3c52b13d2723270ae5a42c305ddf8f6c3cf36f22879698176ffbb6", checked := Tryz.checked }
namespace Rows
def none {H : Type} : Left H := { results := [], args := [] }

/- WHAT THE LISTED PACKAGE-LEVEL VARIABLES READ AS WHEN THE CALL BEGINS. Each datum BY PROGRAM (the guide's laid-datum.mjs) off the statement by which the dump's own 'gosem.cut.vars' lays the variable. In a bare row this is a premise. The card (YtcecfmdjicjngaaGreatDoorCards.lean) ties it to the program's text. -/
def laid_errors_errorType {H : Type} : DataW H := .iface "internal/reflectlite.rtype" (.agg [.ptr (.lit (.string [101, 114, 114, 111, 114]))])

/-- 'laws.FnChecks': WHATEVER THE INPUT: true; the input reads as it did. -/
def fnChecksSpec : ChangeSpec := { name := "fnChecks", fn := fun _ => fun
  | [d] => { results := [.lit (.bool true)], args := [d] }
  | _ => none }
def fnChecksRow : OpenClaim := { program := "ytcecfmdjicjngaagreatdoor", sum := "645a26e91c3c52b13d2723270ae5a42c305ddf8f6c3cf36f22879698176ffbb6", func := "loop.example/g00251/laws.FnChecks", spec := "fnChecks", inPlace := ["internal/reflectlite.ValueOf", "(internal/reflectlite.Value).Type", "(internal/reflectlite.Value).IsNil", "internal/reflectlite.TypeOf", "(internal/reflectlite.Value).Elem", "(internal/reflectlite.Value).Set"], unfollowed := true, recurses := true, named := ["errors.errorType"], apart := false, laid := [("errors.errorType", laid_errors_errorType)] }
def FnChecksSaid : Prop := fnChecksRow.holds Tryz.pinned (OpenSpec.ofChange fnChecksSpec)

/-- ITS FALSE NEIGHBOUR: 'it returns false'. Refute it at one input. -/
def fnChecksWrong : ChangeSpec := { name := "fnChecks", fn := fun _ => fun
  | [d] => { results := [.lit (.bool false)], args := [d] }
  | _ => none }
def FnChecksWrongFalsely : Prop := fnChecksRow.holds Tryz.pinned (OpenSpec.ofChange fnChecksWrong)

/-- 'laws.FnCellsApart': WHATEVER THE INPUT: true; the input reads as it did. -/
def fnCellsApartSpec : ChangeSpec := { name := "fnCellsApart", fn := fun _ => fun
  | [d] => { results := [.lit (.bool true)], args := [d] }
  | _ => none }
def fnCellsApartRow : OpenClaim := { program := "ytcecfmdjicjngaagreatdoor", sum := "645a26e91c3c52b13d2723270ae5a42c305ddf8f6c3cf36f22879698176ffbb6", func := "loop.example/g00251/laws.FnCellsApart", spec := "fnCellsApart", inPlace := ["internal/reflectlite.ValueOf", "(internal/reflectlite.Value).Type", "(internal/reflectlite.Value).IsNil", "internal/reflectlite.TypeOf", "(internal/reflectlite.Value).Elem", "(internal/reflectlite.Value).Set"], unfollowed := true, recurses := true, named := ["errors.errorType"], apart := false, laid := [("errors.errorType", laid_errors_errorType)] }
def FnCellsApartSaid : Prop := fnCellsApartRow.holds Tryz.pinned (OpenSpec.ofChange fnCellsApartSpec)

/-- ITS FALSE NEIGHBOUR: 'it returns false'. Refute it at one input. -/
def fnCellsApartWrong : ChangeSpec := { name := "fnCellsApart", fn := fun _ => fun
  | [d] => { results := [.lit (.bool false)], args := [d] }
  | _ => none }
def FnCellsApartWrongFalsely : Prop := fnCellsApartRow.holds Tryz.pinned (OpenSpec.ofChange fnCellsApartWrong)

/-- 'laws.FnLatches': WHATEVER THE INPUT: true; the input reads as it did. -/
def fnLatchesSpec : ChangeSpec := { name := "fnLatches", fn := fun _ => fun
  | [d] => { results := [.lit (.bool true)], args := [d] }
  | _ => none }
def fnLatchesRow : OpenClaim := { program := "ytcecfmdjicjngaagreatdoor", sum := "645a26e91c3c52b13d2723270ae5a42c305ddf8f6c3cf36f22879698176ffbb6", func := "loop.example/g00251/laws.FnLatches", spec := "fnLatches", inPlace := ["internal/reflectlite.ValueOf", "(internal/reflectlite.Value).Type", "(internal/reflectlite.Value).IsNil", "internal/reflectlite.TypeOf", "(internal/reflectlite.Value).Elem", "(internal/reflectlite.Value).Set"], unfollowed := true, recurses := true, named := ["errors.errorType"], apart := false, laid := [("errors.errorType", laid_errors_errorType)] }
def FnLatchesSaid : Prop := fnLatchesRow.holds Tryz.pinned (OpenSpec.ofChange fnLatchesSpec)

/-- ITS FALSE NEIGHBOUR: 'it returns false'. Refute it at one input. -/
def fnLatchesWrong : ChangeSpec := { name := "fnLatches", fn := fun _ => fun
  | [d] => { results := [.lit (.bool false)], args := [d] }
  | _ => none }
def FnLatchesWrongFalsely : Prop := fnLatchesRow.holds Tryz.pinned (OpenSpec.ofChange fnLatchesWrong)

/-- 'laws.FnExactCheckTree': WHATEVER THE INPUT: true; the input reads as it did. -/
def fnExactCheckTreeSpec : ChangeSpec := { name := "fnExactCheckTree", fn := fun _ => fun
  | [d] => { results := [.lit (.bool true)], args := [d] }
  | _ => none }
def fnExactCheckTreeRow : OpenClaim := { program := "ytcecfmdjicjngaagreatdoor", sum := "645a26e91c3c52b13d2723270ae5a42c305ddf8f6c3cf36f22879698176ffbb6", func := "loop.example/g00251/laws.FnExactCheckTree", spec := "fnExactCheckTree", inPlace := ["internal/reflectlite.ValueOf", "(internal/reflectlite.Value).Type", "(internal/reflectlite.Value).IsNil", "internal/reflectlite.TypeOf", "(internal/reflectlite.Value).Elem", "(internal/reflectlite.Value).Set"], unfollowed := true, recurses := true, named := ["errors.errorType"], apart := false, laid := [("errors.errorType", laid_errors_errorType)] }
def FnExactCheckTreeSaid : Prop := fnExactCheckTreeRow.holds Tryz.pinned (OpenSpec.ofChange fnExactCheckTreeSpec)

/-- ITS FALSE NEIGHBOUR: 'it returns false'. Refute it at one input. -/
def fnExactCheckTreeWrong : ChangeSpec := { name := "fnExactCheckTree", fn := fun _ => fun
  | [d] => { results := [.lit (.bool false)], args := [d] }
  | _ => none }
def FnExactCheckTreeWrongFalsely : Prop := fnExactCheckTreeRow.holds Tryz.pinned (OpenSpec.ofChange fnExactCheckTreeWrong)

/-- 'laws.FnExactStartState': WHATEVER THE INPUT: true; the input reads as it did. -/
def fnExactStartStateSpec : ChangeSpec := { name := "fnExactStartState", fn := fun _ => fun
  | [d] => { results := [.lit (.bool true)], args := [d] }
  | _ => none }
def fnExactStartStateRow : OpenClaim := { program := "ytcecfmdjicjngaagreatdoor", sum := "645a26e91c3c52b13d2723270ae5a42c305ddf8f6c3cf36f22879698176ffbb6", func := "loop.example/g00251/laws.FnExactStartState", spec := "fnExactStartState", inPlace := ["internal/reflectlite.ValueOf", "(internal/reflectlite.Value).Type", "(internal/reflectlite.Value).IsNil", "internal/reflectlite.TypeOf", "(internal/reflectlite.Value).Elem", "(internal/reflectlite.Value).Set"], unfollowed := true, recurses := true, named := ["errors.errorType"], apart := false, laid := [("errors.errorType", laid_errors_errorType)] }
def FnExactStartStateSaid : Prop := fnExactStartStateRow.holds Tryz.pinned (OpenSpec.ofChange fnExactStartStateSpec)

/-- ITS FALSE NEIGHBOUR: 'it returns false'. Refute it at one input. -/
def fnExactStartStateWrong : ChangeSpec := { name := "fnExactStartState", fn := fun _ => fun
  | [d] => { results := [.lit (.bool false)], args := [d] }
  | _ => none }
def FnExactStartStateWrongFalsely : Prop := fnExactStartStateRow.holds Tryz.pinned (OpenSpec.ofChange fnExactStartStateWrong)

/-- 'laws.FnExactStateFault': WHATEVER THE INPUT: true; the input reads as it did. -/
def fnExactStateFaultSpec : ChangeSpec := { name := "fnExactStateFault", fn := fun _ => fun
  | [d1, d2] => { results := [.lit (.bool true)], args := [d1, d2] }
  | _ => none }
def fnExactStateFaultRow : OpenClaim := { program := "ytcecfmdjicjngaagreatdoor", sum := "645a26e91c3c52b13d2723270ae5a42c305ddf8f6c3cf36f22879698176ffbb6", func := "loop.example/g00251/laws.FnExactStateFault", spec := "fnExactStateFault", inPlace := ["internal/reflectlite.ValueOf", "(internal/reflectlite.Value).Type", "(internal/reflectlite.Value).IsNil", "internal/reflectlite.TypeOf", "(internal/reflectlite.Value).Elem", "(internal/reflectlite.Value).Set"], unfollowed := true, recurses := true, named := ["errors.errorType"], apart := false, laid := [("errors.errorType", laid_errors_errorType)] }
def FnExactStateFaultSaid : Prop := fnExactStateFaultRow.holds Tryz.pinned (OpenSpec.ofChange fnExactStateFaultSpec)

/-- ITS FALSE NEIGHBOUR: 'it returns false'. Refute it at one input. -/
def fnExactStateFaultWrong : ChangeSpec := { name := "fnExactStateFault", fn := fun _ => fun
  | [d1, d2] => { results := [.lit (.bool false)], args := [d1, d2] }
  | _ => none }
def FnExactStateFaultWrongFalsely : Prop := fnExactStateFaultRow.holds Tryz.pinned (OpenSpec.ofChange fnExactStateFaultWrong)

/-- 'laws.FnExactTempNames': WHATEVER THE INPUT: true; the input reads as it did. -/
def fnExactTempNamesSpec : ChangeSpec := { name := "fnExactTempNames", fn := fun _ => fun
  | [d] => { results := [.lit (.bool true)], args := [d] }
  | _ => none }
def fnExactTempNamesRow : OpenClaim := { program := "ytcecfmdjicjngaagreatdoor", sum := "645a26e91c3c52b13d2723270ae5a42c305ddf8f6c3cf36f22879698176ffbb6", func := "loop.example/g00251/laws.FnExactTempNames", spec := "fnExactTempNames", inPlace := ["internal/reflectlite.ValueOf", "(internal/reflectlite.Value).Type", "(internal/reflectlite.Value).IsNil", "internal/reflectlite.TypeOf", "(internal/reflectlite.Value).Elem", "(internal/reflectlite.Value).Set"], unfollowed := true, recurses := true, named := ["errors.errorType"], apart := false, laid := [("errors.errorType", laid_errors_errorType)] }
def FnExactTempNamesSaid : Prop := fnExactTempNamesRow.holds Tryz.pinned (OpenSpec.ofChange fnExactTempNamesSpec)

/-- ITS FALSE NEIGHBOUR: 'it returns false'. Refute it at one input. -/
def fnExactTempNamesWrong : ChangeSpec := { name := "fnExactTempNames", fn := fun _ => fun
  | [d] => { results := [.lit (.bool false)], args := [d] }
  | _ => none }
def FnExactTempNamesWrongFalsely : Prop := fnExactTempNamesRow.holds Tryz.pinned (OpenSpec.ofChange fnExactTempNamesWrong)

/-- 'laws.FnExactOwnNames': WHATEVER THE INPUT: true; the input reads as it did. -/
def fnExactOwnNamesSpec : ChangeSpec := { name := "fnExactOwnNames", fn := fun _ => fun
  | [d] => { results := [.lit (.bool true)], args := [d] }
  | _ => none }
def fnExactOwnNamesRow : OpenClaim := { program := "ytcecfmdjicjngaagreatdoor", sum := "645a26e91c3c52b13d2723270ae5a42c305ddf8f6c3cf36f22879698176ffbb6", func := "loop.example/g00251/laws.FnExactOwnNames", spec := "fnExactOwnNames", inPlace := ["internal/reflectlite.ValueOf", "(internal/reflectlite.Value).Type", "(internal/reflectlite.Value).IsNil", "internal/reflectlite.TypeOf", "(internal/reflectlite.Value).Elem", "(internal/reflectlite.Value).Set"], unfollowed := true, recurses := true, named := ["errors.errorType"], apart := false, laid := [("errors.errorType", laid_errors_errorType)] }
def FnExactOwnNamesSaid : Prop := fnExactOwnNamesRow.holds Tryz.pinned (OpenSpec.ofChange fnExactOwnNamesSpec)

/-- ITS FALSE NEIGHBOUR: 'it returns false'. Refute it at one input. -/
def fnExactOwnNamesWrong : ChangeSpec := { name := "fnExactOwnNames", fn := fun _ => fun
  | [d] => { results := [.lit (.bool false)], args := [d] }
  | _ => none }
def FnExactOwnNamesWrongFalsely : Prop := fnExactOwnNamesRow.holds Tryz.pinned (OpenSpec.ofChange fnExactOwnNamesWrong)

/-- 'laws.FnExactCompileStack': WHATEVER THE INPUT: true; the input reads as it did. -/
def fnExactCompileStackSpec : ChangeSpec := { name := "fnExactCompileStack", fn := fun _ => fun
  | [d] => { results := [.lit (.bool true)], args := [d] }
  | _ => none }
def fnExactCompileStackRow : OpenClaim := { program := "ytcecfmdjicjngaagreatdoor", sum := "645a26e91c3c52b13d2723270ae5a42c305ddf8f6c3cf36f22879698176ffbb6", func := "loop.example/g00251/laws.FnExactCompileStack", spec := "fnExactCompileStack", inPlace := ["internal/reflectlite.ValueOf", "(internal/reflectlite.Value).Type", "(internal/reflectlite.Value).IsNil", "internal/reflectlite.TypeOf", "(internal/reflectlite.Value).Elem", "(internal/reflectlite.Value).Set"], unfollowed := true, recurses := true, named := ["errors.errorType"], apart := false, laid := [("errors.errorType", laid_errors_errorType)] }
def FnExactCompileStackSaid : Prop := fnExactCompileStackRow.holds Tryz.pinned (OpenSpec.ofChange fnExactCompileStackSpec)

/-- ITS FALSE NEIGHBOUR: 'it returns false'. Refute it at one input. -/
def fnExactCompileStackWrong : ChangeSpec := { name := "fnExactCompileStack", fn := fun _ => fun
  | [d] => { results := [.lit (.bool false)], args := [d] }
  | _ => none }
def FnExactCompileStackWrongFalsely : Prop := fnExactCompileStackRow.holds Tryz.pinned (OpenSpec.ofChange fnExactCompileStackWrong)

/-- 'laws.FnExactMarksOf': WHATEVER THE INPUT: true; the input reads as it did. -/
def fnExactMarksOfSpec : ChangeSpec := { name := "fnExactMarksOf", fn := fun _ => fun
  | [d] => { results := [.lit (.bool true)], args := [d] }
  | _ => none }
def fnExactMarksOfRow : OpenClaim := { program := "ytcecfmdjicjngaagreatdoor", sum := "645a26e91c3c52b13d2723270ae5a42c305ddf8f6c3cf36f22879698176ffbb6", func := "loop.example/g00251/laws.FnExactMarksOf", spec := "fnExactMarksOf", inPlace := ["internal/reflectlite.ValueOf", "(internal/reflectlite.Value).Type", "(internal/reflectlite.Value).IsNil", "internal/reflectlite.TypeOf", "(internal/reflectlite.Value).Elem", "(internal/reflectlite.Value).Set"], unfollowed := true, recurses := true, named := ["errors.errorType"], apart := false, laid := [("errors.errorType", laid_errors_errorType)] }
def FnExactMarksOfSaid : Prop := fnExactMarksOfRow.holds Tryz.pinned (OpenSpec.ofChange fnExactMarksOfSpec)

/-- ITS FALSE NEIGHBOUR: 'it returns false'. Refute it at one input. -/
def fnExactMarksOfWrong : ChangeSpec := { name := "fnExactMarksOf", fn := fun _ => fun
  | [d] => { results := [.lit (.bool false)], args := [d] }
  | _ => none }
def FnExactMarksOfWrongFalsely : Prop := fnExactMarksOfRow.holds Tryz.pinned (OpenSpec.ofChange fnExactMarksOfWrong)

/-- 'laws.FnExactLatchInputs': WHATEVER THE INPUT: true; the input reads as it did. -/
def fnExactLatchInputsSpec : ChangeSpec := { name := "fnExactLatchInputs", fn := fun _ => fun
  | [d1, d2, d3] => { results := [.lit (.bool true)], args := [d1, d2, d3] }
  | _ => none }
def fnExactLatchInputsRow : OpenClaim := { program := "ytcecfmdjicjngaagreatdoor", sum := "645a26e91c3c52b13d2723270ae5a42c305ddf8f6c3cf36f22879698176ffbb6", func := "loop.example/g00251/laws.FnExactLatchInputs", spec := "fnExactLatchInputs", inPlace := ["internal/reflectlite.ValueOf", "(internal/reflectlite.Value).Type", "(internal/reflectlite.Value).IsNil", "internal/reflectlite.TypeOf", "(internal/reflectlite.Value).Elem", "(internal/reflectlite.Value).Set"], unfollowed := true, recurses := true, named := ["errors.errorType"], apart := false, laid := [("errors.errorType", laid_errors_errorType)] }
def FnExactLatchInputsSaid : Prop := fnExactLatchInputsRow.holds Tryz.pinned (OpenSpec.ofChange fnExactLatchInputsSpec)

/-- ITS FALSE NEIGHBOUR: 'it returns false'. Refute it at one input. -/
def fnExactLatchInputsWrong : ChangeSpec := { name := "fnExactLatchInputs", fn := fun _ => fun
  | [d1, d2, d3] => { results := [.lit (.bool false)], args := [d1, d2, d3] }
  | _ => none }
def FnExactLatchInputsWrongFalsely : Prop := fnExactLatchInputsRow.holds Tryz.pinned (OpenSpec.ofChange fnExactLatchInputsWrong)

/-- 'laws.FnExactOutsOf': WHATEVER THE INPUT: true; the input reads as it did. -/
def fnExactOutsOfSpec : ChangeSpec := { name := "fnExactOutsOf", fn := fun _ => fun
  | [d1, d2] => { results := [.lit (.bool true)], args := [d1, d2] }
  | _ => none }
def fnExactOutsOfRow : OpenClaim := { program := "ytcecfmdjicjngaagreatdoor", sum := "645a26e91c3c52b13d2723270ae5a42c305ddf8f6c3cf36f22879698176ffbb6", func := "loop.example/g00251/laws.FnExactOutsOf", spec := "fnExactOutsOf", inPlace := ["internal/reflectlite.ValueOf", "(internal/reflectlite.Value).Type", "(internal/reflectlite.Value).IsNil", "internal/reflectlite.TypeOf", "(internal/reflectlite.Value).Elem", "(internal/reflectlite.Value).Set"], unfollowed := true, recurses := true, named := ["errors.errorType"], apart := false, laid := [("errors.errorType", laid_errors_errorType)] }
def FnExactOutsOfSaid : Prop := fnExactOutsOfRow.holds Tryz.pinned (OpenSpec.ofChange fnExactOutsOfSpec)

/-- ITS FALSE NEIGHBOUR: 'it returns false'. Refute it at one input. -/
def fnExactOutsOfWrong : ChangeSpec := { name := "fnExactOutsOf", fn := fun _ => fun
  | [d1, d2] => { results := [.lit (.bool false)], args := [d1, d2] }
  | _ => none }
def FnExactOutsOfWrongFalsely : Prop := fnExactOutsOfRow.holds Tryz.pinned (OpenSpec.ofChange fnExactOutsOfWrong)

/- THE SECOND FORM. 'bulk': how many values and letters a reading holds, each counted each time it is reached (what is shared counts as often as it is met; a slice's spare places count too). A statement '..UptoSaid' is the law's where the arguments, and the package variables that the reading takes, are together of bulk at most 1048576: NARROWER than '..Said'. Prove '..Said' where nothing that the law and all that it calls make is longer than what came in: it says more and counts as full. Else prove '..UptoSaid'. A law counts once. -/
mutual
def uptoBulk {H : Type} : DataW H → Nat
  | .lit (.string bytes) => bytes.length + 1
  | .lit _ => 1
  | .nil => 1
  | .ptr d => uptoBulk d + 1
  | .slice elems spare => uptoBulkAll elems + uptoBulkAll spare + 1
  | .agg parts => uptoBulkAll parts + 1
  | .iface _ d => uptoBulk d + 1
  | .map entries => uptoBulkEntries entries + 1
  | .held _ => 1
def uptoBulkAll {H : Type} : List (DataW H) → Nat
  | [] => 0
  | d :: r => uptoBulk d + uptoBulkAll r
def uptoBulkEntries {H : Type} : List (Lit × DataW H) → Nat
  | [] => 0
  | x :: r => uptoBulkEntry x + uptoBulkEntries r
def uptoBulkEntry {H : Type} : Lit × DataW H → Nat
  | (.string bytes, d) => bytes.length + uptoBulk d + 1
  | (_, d) => uptoBulk d + 1
 end
def uptoSmall : (H : Type) → List (DataW H) → Bool := fun _ ds => decide (uptoBulkAll ds ≤ 1048576)
def OpenSpec.upto (s : _root_.Go.ChangeSpec) : _root_.Go.OpenSpec := { _root_.Go.OpenSpec.ofChange s with cond := some uptoSmall }

/-- 'laws.FnChecks', WHERE WHAT IT READS IS OF BULK AT MOST 1048576: true; the input reads as it did. -/
def fnChecksUptoRow : OpenClaim := { program := "ytcecfmdjicjngaagreatdoor", sum := "645a26e91c3c52b13d2723270ae5a42c305ddf8f6c3cf36f22879698176ffbb6", func := "loop.example/g00251/laws.FnChecks", spec := "fnChecks", inPlace := ["internal/reflectlite.ValueOf", "(internal/reflectlite.Value).Type", "(internal/reflectlite.Value).IsNil", "internal/reflectlite.TypeOf", "(internal/reflectlite.Value).Elem", "(internal/reflectlite.Value).Set"], unfollowed := true, recurses := true, named := ["errors.errorType"], apart := false, laid := [("errors.errorType", laid_errors_errorType)], narrowed := true }
def FnChecksUptoSaid : Prop := fnChecksUptoRow.holds Tryz.pinned (OpenSpec.upto fnChecksSpec)

/-- 'laws.FnCellsApart', WHERE WHAT IT READS IS OF BULK AT MOST 1048576: true; the input reads as it did. -/
def fnCellsApartUptoRow : OpenClaim := { program := "ytcecfmdjicjngaagreatdoor", sum := "645a26e91c3c52b13d2723270ae5a42c305ddf8f6c3cf36f22879698176ffbb6", func := "loop.example/g00251/laws.FnCellsApart", spec := "fnCellsApart", inPlace := ["internal/reflectlite.ValueOf", "(internal/reflectlite.Value).Type", "(internal/reflectlite.Value).IsNil", "internal/reflectlite.TypeOf", "(internal/reflectlite.Value).Elem", "(internal/reflectlite.Value).Set"], unfollowed := true, recurses := true, named := ["errors.errorType"], apart := false, laid := [("errors.errorType", laid_errors_errorType)], narrowed := true }
def FnCellsApartUptoSaid : Prop := fnCellsApartUptoRow.holds Tryz.pinned (OpenSpec.upto fnCellsApartSpec)

/-- 'laws.FnLatches', WHERE WHAT IT READS IS OF BULK AT MOST 1048576: true; the input reads as it did. -/
def fnLatchesUptoRow : OpenClaim := { program := "ytcecfmdjicjngaagreatdoor", sum := "645a26e91c3c52b13d2723270ae5a42c305ddf8f6c3cf36f22879698176ffbb6", func := "loop.example/g00251/laws.FnLatches", spec := "fnLatches", inPlace := ["internal/reflectlite.ValueOf", "(internal/reflectlite.Value).Type", "(internal/reflectlite.Value).IsNil", "internal/reflectlite.TypeOf", "(internal/reflectlite.Value).Elem", "(internal/reflectlite.Value).Set"], unfollowed := true, recurses := true, named := ["errors.errorType"], apart := false, laid := [("errors.errorType", laid_errors_errorType)], narrowed := true }
def FnLatchesUptoSaid : Prop := fnLatchesUptoRow.holds Tryz.pinned (OpenSpec.upto fnLatchesSpec)

/-- 'laws.FnExactCheckTree', WHERE WHAT IT READS IS OF BULK AT MOST 1048576: true; the input reads as it did. -/
def fnExactCheckTreeUptoRow : OpenClaim := { program := "ytcecfmdjicjngaagreatdoor", sum := "645a26e91c3c52b13d2723270ae5a42c305ddf8f6c3cf36f22879698176ffbb6", func := "loop.example/g00251/laws.FnExactCheckTree", spec := "fnExactCheckTree", inPlace := ["internal/reflectlite.ValueOf", "(internal/reflectlite.Value).Type", "(internal/reflectlite.Value).IsNil", "internal/reflectlite.TypeOf", "(internal/reflectlite.Value).Elem", "(internal/reflectlite.Value).Set"], unfollowed := true, recurses := true, named := ["errors.errorType"], apart := false, laid := [("errors.errorType", laid_errors_errorType)], narrowed := true }
def FnExactCheckTreeUptoSaid : Prop := fnExactCheckTreeUptoRow.holds Tryz.pinned (OpenSpec.upto fnExactCheckTreeSpec)

/-- 'laws.FnExactStartState', WHERE WHAT IT READS IS OF BULK AT MOST 1048576: true; the input reads as it did. -/
def fnExactStartStateUptoRow : OpenClaim := { program := "ytcecfmdjicjngaagreatdoor", sum := "645a26e91c3c52b13d2723270ae5a42c305ddf8f6c3cf36f22879698176ffbb6", func := "loop.example/g00251/laws.FnExactStartState", spec := "fnExactStartState", inPlace := ["internal/reflectlite.ValueOf", "(internal/reflectlite.Value).Type", "(internal/reflectlite.Value).IsNil", "internal/reflectlite.TypeOf", "(internal/reflectlite.Value).Elem", "(internal/reflectlite.Value).Set"], unfollowed := true, recurses := true, named := ["errors.errorType"], apart := false, laid := [("errors.errorType", laid_errors_errorType)], narrowed := true }
def FnExactStartStateUptoSaid : Prop := fnExactStartStateUptoRow.holds Tryz.pinned (OpenSpec.upto fnExactStartStateSpec)

/-- 'laws.FnExactStateFault', WHERE WHAT IT READS IS OF BULK AT MOST 1048576: true; the input reads as it did. -/
def fnExactStateFaultUptoRow : OpenClaim := { program := "ytcecfmdjicjngaagreatdoor", sum := "645a26e91c3c52b13d2723270ae5a42c305ddf8f6c3cf36f22879698176ffbb6", func := "loop.example/g00251/laws.FnExactStateFault", spec := "fnExactStateFault", inPlace := ["internal/reflectlite.ValueOf", "(internal/reflectlite.Value).Type", "(internal/reflectlite.Value).IsNil", "internal/reflectlite.TypeOf", "(internal/reflectlite.Value).Elem", "(internal/reflectlite.Value).Set"], unfollowed := true, recurses := true, named := ["errors.errorType"], apart := false, laid := [("errors.errorType", laid_errors_errorType)], narrowed := true }
def FnExactStateFaultUptoSaid : Prop := fnExactStateFaultUptoRow.holds Tryz.pinned (OpenSpec.upto fnExactStateFaultSpec)

/-- 'laws.FnExactTempNames', WHERE WHAT IT READS IS OF BULK AT MOST 1048576: true; the input reads as it did. -/
def fnExactTempNamesUptoRow : OpenClaim := { program := "ytcecfmdjicjngaagreatdoor", sum := "645a26e91c3c52b13d2723270ae5a42c305ddf8f6c3cf36f22879698176ffbb6", func := "loop.example/g00251/laws.FnExactTempNames", spec := "fnExactTempNames", inPlace := ["internal/reflectlite.ValueOf", "(internal/reflectlite.Value).Type", "(internal/reflectlite.Value).IsNil", "internal/reflectlite.TypeOf", "(internal/reflectlite.Value).Elem", "(internal/reflectlite.Value).Set"], unfollowed := true, recurses := true, named := ["errors.errorType"], apart := false, laid := [("errors.errorType", laid_errors_errorType)], narrowed := true }
def FnExactTempNamesUptoSaid : Prop := fnExactTempNamesUptoRow.holds Tryz.pinned (OpenSpec.upto fnExactTempNamesSpec)

/-- 'laws.FnExactOwnNames', WHERE WHAT IT READS IS OF BULK AT MOST 1048576: true; the input reads as it did. -/
def fnExactOwnNamesUptoRow : OpenClaim := { program := "ytcecfmdjicjngaagreatdoor", sum := "645a26e91c3c52b13d2723270ae5a42c305ddf8f6c3cf36f22879698176ffbb6", func := "loop.example/g00251/laws.FnExactOwnNames", spec := "fnExactOwnNames", inPlace := ["internal/reflectlite.ValueOf", "(internal/reflectlite.Value).Type", "(internal/reflectlite.Value).IsNil", "internal/reflectlite.TypeOf", "(internal/reflectlite.Value).Elem", "(internal/reflectlite.Value).Set"], unfollowed := true, recurses := true, named := ["errors.errorType"], apart := false, laid := [("errors.errorType", laid_errors_errorType)], narrowed := true }
def FnExactOwnNamesUptoSaid : Prop := fnExactOwnNamesUptoRow.holds Tryz.pinned (OpenSpec.upto fnExactOwnNamesSpec)

/-- 'laws.FnExactCompileStack', WHERE WHAT IT READS IS OF BULK AT MOST 1048576: true; the input reads as it did. -/
def fnExactCompileStackUptoRow : OpenClaim := { program := "ytcecfmdjicjngaagreatdoor", sum := "645a26e91c3c52b13d2723270ae5a42c305ddf8f6c3cf36f22879698176ffbb6", func := "loop.example/g00251/laws.FnExactCompileStack", spec := "fnExactCompileStack", inPlace := ["internal/reflectlite.ValueOf", "(internal/reflectlite.Value).Type", "(internal/reflectlite.Value).IsNil", "internal/reflectlite.TypeOf", "(internal/reflectlite.Value).Elem", "(internal/reflectlite.Value).Set"], unfollowed := true, recurses := true, named := ["errors.errorType"], apart := false, laid := [("errors.errorType", laid_errors_errorType)], narrowed := true }
def FnExactCompileStackUptoSaid : Prop := fnExactCompileStackUptoRow.holds Tryz.pinned (OpenSpec.upto fnExactCompileStackSpec)

/-- 'laws.FnExactMarksOf', WHERE WHAT IT READS IS OF BULK AT MOST 1048576: true; the input reads as it did. -/
def fnExactMarksOfUptoRow : OpenClaim := { program := "ytcecfmdjicjngaagreatdoor", sum := "645a26e91c3c52b13d2723270ae5a42c305ddf8f6c3cf36f22879698176ffbb6", func := "loop.example/g00251/laws.FnExactMarksOf", spec := "fnExactMarksOf", inPlace := ["internal/reflectlite.ValueOf", "(internal/reflectlite.Value).Type", "(internal/reflectlite.Value).IsNil", "internal/reflectlite.TypeOf", "(internal/reflectlite.Value).Elem", "(internal/reflectlite.Value).Set"], unfollowed := true, recurses := true, named := ["errors.errorType"], apart := false, laid := [("errors.errorType", laid_errors_errorType)], narrowed := true }
def FnExactMarksOfUptoSaid : Prop := fnExactMarksOfUptoRow.holds Tryz.pinned (OpenSpec.upto fnExactMarksOfSpec)

/-- 'laws.FnExactLatchInputs', WHERE WHAT IT READS IS OF BULK AT MOST 1048576: true; the input reads as it did. -/
def fnExactLatchInputsUptoRow : OpenClaim := { program := "ytcecfmdjicjngaagreatdoor", sum := "645a26e91c3c52b13d2723270ae5a42c305ddf8f6c3cf36f22879698176ffbb6", func := "loop.example/g00251/laws.FnExactLatchInputs", spec := "fnExactLatchInputs", inPlace := ["internal/reflectlite.ValueOf", "(internal/reflectlite.Value).Type", "(internal/reflectlite.Value).IsNil", "internal/reflectlite.TypeOf", "(internal/reflectlite.Value).Elem", "(internal/reflectlite.Value).Set"], unfollowed := true, recurses := true, named := ["errors.errorType"], apart := false, laid := [("errors.errorType", laid_errors_errorType)], narrowed := true }
def FnExactLatchInputsUptoSaid : Prop := fnExactLatchInputsUptoRow.holds Tryz.pinned (OpenSpec.upto fnExactLatchInputsSpec)

/-- 'laws.FnExactOutsOf', WHERE WHAT IT READS IS OF BULK AT MOST 1048576: true; the input reads as it did. -/
def fnExactOutsOfUptoRow : OpenClaim := { program := "ytcecfmdjicjngaagreatdoor", sum := "645a26e91c3c52b13d2723270ae5a42c305ddf8f6c3cf36f22879698176ffbb6", func := "loop.example/g00251/laws.FnExactOutsOf", spec := "fnExactOutsOf", inPlace := ["internal/reflectlite.ValueOf", "(internal/reflectlite.Value).Type", "(internal/reflectlite.Value).IsNil", "internal/reflectlite.TypeOf", "(internal/reflectlite.Value).Elem", "(internal/reflectlite.Value).Set"], unfollowed := true, recurses := true, named := ["errors.errorType"], apart := false, laid := [("errors.errorType", laid_errors_errorType)], narrowed := true }
def FnExactOutsOfUptoSaid : Prop := fnExactOutsOfUptoRow.holds Tryz.pinned (OpenSpec.upto fnExactOutsOfSpec)

end Rows
end Go.Proofs.YtcecfmdjicjngaaGreatDoor
