/-
  No cell of these rows narrows 'for every input' (looked for: loops, veiled, ifaces, maps, wideKeys, modest, calm, conditions, laid).
  DERIVED. THE GIVEN ROWS OF THIS SEAT. 5 by the template 'for every input the law returns true; each argument reads behind the call as it read before'; 0 by the template 'total and deterministic' (their statements: YtalopffpaepaaaaTotals.lean).
  GIVEN WITH THE SEED: the statements are not yours to turn. If you find one false, say at which input.
  Laid BY PROGRAM, IN A SANDBOX (cutbox-rows.mjs): the forced cells as the released guide's own fill.sh prints them over the translation 6bb6dce43b7bd597… (all of the seat's roots in one cut). By AI agents, Wed Nov 11 2026. No macro, syntax, notation, axiom, sorry.
-/
import Derived.Test.YtalopffpaepaaaaChecked
import GoSem.Claim
import GoSem.ClaimJoined
import GoSem.ClaimMapViews
import Derived.JoinedTies
import Derived.KernelRfl
namespace Go.Proofs.Ytalopffpaepaaaa
/- THE CELL 'sum', in the pinned program and in every row, IS THE sha256 OF THE DUMP (.gsa) THAT YtalopffpaepaaaaProg.lean LOADS. Nothing in Lean hashes anything: it is a label: what it is worth is what the hold of that sum in a sandbox is worth. -/
noncomputable def Try.pinned : Pinned := { name := "ytalopffpaepaaaa", sum := "6bb6dce43b7bd597ebde0795bf11ee20c2d129091e066c61caa3f76d804bbab0", checked := Try.checked }
namespace Rows
def none {H : Type} : Left H := { results := [], args := [] }

/-- 'laws.FnBlocksteps': WHATEVER THE INPUT: true; the input reads as it did. -/
def fnBlockstepsSpec : ChangeSpec := { name := "fnBlocksteps", fn := fun _ => fun
  | [d] => { results := [.lit (.bool true)], args := [d] }
  | _ => none }
def fnBlockstepsRow : OpenClaim := { program := "ytalopffpaepaaaa", sum := "6bb6dce43b7bd597ebde0795bf11ee20c2d129091e066c61caa3f76d804bbab0", func := "loop.example/g00251/laws.FnBlocksteps", spec := "fnBlocksteps", unfollowed := true, recurses := true, apart := false }
def FnBlockstepsSaid : Prop := fnBlockstepsRow.holds Try.pinned (OpenSpec.ofChange fnBlockstepsSpec)

/-- ITS FALSE NEIGHBOUR: 'it returns false'. Refute it at one input. -/
def fnBlockstepsWrong : ChangeSpec := { name := "fnBlocksteps", fn := fun _ => fun
  | [d] => { results := [.lit (.bool false)], args := [d] }
  | _ => none }
def FnBlockstepsWrongFalsely : Prop := fnBlockstepsRow.holds Try.pinned (OpenSpec.ofChange fnBlockstepsWrong)

/-- 'laws.FnStacks': WHATEVER THE INPUT: true; the input reads as it did. -/
def fnStacksSpec : ChangeSpec := { name := "fnStacks", fn := fun _ => fun
  | [d] => { results := [.lit (.bool true)], args := [d] }
  | _ => none }
def fnStacksRow : OpenClaim := { program := "ytalopffpaepaaaa", sum := "6bb6dce43b7bd597ebde0795bf11ee20c2d129091e066c61caa3f76d804bbab0", func := "loop.example/g00251/laws.FnStacks", spec := "fnStacks", unfollowed := true, recurses := true, apart := false }
def FnStacksSaid : Prop := fnStacksRow.holds Try.pinned (OpenSpec.ofChange fnStacksSpec)

/-- ITS FALSE NEIGHBOUR: 'it returns false'. Refute it at one input. -/
def fnStacksWrong : ChangeSpec := { name := "fnStacks", fn := fun _ => fun
  | [d] => { results := [.lit (.bool false)], args := [d] }
  | _ => none }
def FnStacksWrongFalsely : Prop := fnStacksRow.holds Try.pinned (OpenSpec.ofChange fnStacksWrong)

/-- 'laws.FnExactBlockStep': WHATEVER THE INPUT: true; the input reads as it did. -/
def fnExactBlockStepSpec : ChangeSpec := { name := "fnExactBlockStep", fn := fun _ => fun
  | [d1, d2, d3] => { results := [.lit (.bool true)], args := [d1, d2, d3] }
  | _ => none }
def fnExactBlockStepRow : OpenClaim := { program := "ytalopffpaepaaaa", sum := "6bb6dce43b7bd597ebde0795bf11ee20c2d129091e066c61caa3f76d804bbab0", func := "loop.example/g00251/laws.FnExactBlockStep", spec := "fnExactBlockStep", unfollowed := true, recurses := true, apart := false }
def FnExactBlockStepSaid : Prop := fnExactBlockStepRow.holds Try.pinned (OpenSpec.ofChange fnExactBlockStepSpec)

/-- ITS FALSE NEIGHBOUR: 'it returns false'. Refute it at one input. -/
def fnExactBlockStepWrong : ChangeSpec := { name := "fnExactBlockStep", fn := fun _ => fun
  | [d1, d2, d3] => { results := [.lit (.bool false)], args := [d1, d2, d3] }
  | _ => none }
def FnExactBlockStepWrongFalsely : Prop := fnExactBlockStepRow.holds Try.pinned (OpenSpec.ofChange fnExactBlockStepWrong)

/-- 'laws.FnExactStepStack': WHATEVER THE INPUT: true; the input reads as it did. -/
def fnExactStepStackSpec : ChangeSpec := { name := "fnExactStepStack", fn := fun _ => fun
  | [d1, d2] => { results := [.lit (.bool true)], args := [d1, d2] }
  | _ => none }
def fnExactStepStackRow : OpenClaim := { program := "ytalopffpaepaaaa", sum := "6bb6dce43b7bd597ebde0795bf11ee20c2d129091e066c61caa3f76d804bbab0", func := "loop.example/g00251/laws.FnExactStepStack", spec := "fnExactStepStack", unfollowed := true, recurses := true, apart := false }
def FnExactStepStackSaid : Prop := fnExactStepStackRow.holds Try.pinned (OpenSpec.ofChange fnExactStepStackSpec)

/-- ITS FALSE NEIGHBOUR: 'it returns false'. Refute it at one input. -/
def fnExactStepStackWrong : ChangeSpec := { name := "fnExactStepStack", fn := fun _ => fun
  | [d1, d2] => { results := [.lit (.bool false)], args := [d1, d2] }
  | _ => none }
def FnExactStepStackWrongFalsely : Prop := fnExactStepStackRow.holds Try.pinned (OpenSpec.ofChange fnExactStepStackWrong)

/-- 'laws.FnExactRunStack': WHATEVER THE INPUT: true; the input reads as it did. -/
def fnExactRunStackSpec : ChangeSpec := { name := "fnExactRunStack", fn := fun _ => fun
  | [d1, d2, d3] => { results := [.lit (.bool true)], args := [d1, d2, d3] }
  | _ => none }
def fnExactRunStackRow : OpenClaim := { program := "ytalopffpaepaaaa", sum := "6bb6dce43b7bd597ebde0795bf11ee20c2d129091e066c61caa3f76d804bbab0", func := "loop.example/g00251/laws.FnExactRunStack", spec := "fnExactRunStack", unfollowed := true, recurses := true, apart := false }
def FnExactRunStackSaid : Prop := fnExactRunStackRow.holds Try.pinned (OpenSpec.ofChange fnExactRunStackSpec)

/-- ITS FALSE NEIGHBOUR: 'it returns false'. Refute it at one input. -/
def fnExactRunStackWrong : ChangeSpec := { name := "fnExactRunStack", fn := fun _ => fun
  | [d1, d2, d3] => { results := [.lit (.bool false)], args := [d1, d2, d3] }
  | _ => none }
def FnExactRunStackWrongFalsely : Prop := fnExactRunStackRow.holds Try.pinned (OpenSpec.ofChange fnExactRunStackWrong)

/- THE SECOND FORM. 'bulk': how many values and letters a reading holds, each counted each time it is reached (what is shared counts as often as it is met; a slice's spare places count too). A statement '..UptoSaid' is the law's where the arguments, and the package variables that the reading takes, are together of bulk at most 1048576: NARROWER than '..Said'. Prove '..Said' where nothing that the law and all that it calls make is longer than what came in: it says more and counts as full. Else prove '..UptoSaid'. A law counts once. -/
mutual
def uptoBulk {H : Type} : DataW H → Nat
  | .lit (.string bytes) => bytes.length + 1
  | .lit _ => 1
  | .nil => 1
  | .ptr d => uptoBulk d + 1
  | .slice elems spare => uptoBulkAll elems + uptoBulkAll spare + 1
  | .agg parts => uptoBulkAll parts + 1
  | .iface _ d => uptoBulk d + 1
  | .map entries => uptoBulkEntries entries + 1
  | .held _ => 1
def uptoBulkAll {H : Type} : List (DataW H) → Nat
  | [] => 0
  | d :: r => uptoBulk d + uptoBulkAll r
def uptoBulkEntries {H : Type} : List (Lit × DataW H) → Nat
  | [] => 0
  | x :: r => uptoBulkEntry x + uptoBulkEntries r
def uptoBulkEntry {H : Type} : Lit × DataW H → Nat
  | (.string bytes, d) => bytes.length + uptoBulk d + 1
  | (_, d) => uptoBulk d + 1
 end
def uptoSmall : (H : Type) → List (DataW H) → Bool := fun _ ds => decide (uptoBulkAll ds ≤ 1048576)
def OpenSpec.upto (s : _root_.Go.ChangeSpec) : _root_.Go.OpenSpec := { _root_.Go.OpenSpec.ofChange s with cond := some uptoSmall }

/-- 'laws.FnBlocksteps', WHERE WHAT IT READS IS OF BULK AT MOST 1048576: true; the input reads as it did. -/
def fnBlockstepsUptoRow : OpenClaim := { program := "ytalopffpaepaaaa", sum := "6bb6dce43b7bd597ebde0795bf11ee20c2d129091e066c61caa3f76d804bbab0", func := "loop.example/g00251/laws.FnBlocksteps", spec := "fnBlocksteps", unfollowed := true, recurses := true, apart := false, narrowed := true }
def FnBlockstepsUptoSaid : Prop := fnBlockstepsUptoRow.holds Try.pinned (OpenSpec.upto fnBlockstepsSpec)

/-- 'laws.FnStacks', WHERE WHAT IT READS IS OF BULK AT MOST 1048576: true; the input reads as it did. -/
def fnStacksUptoRow : OpenClaim := { program := "ytalopffpaepaaaa", sum := "6bb6dce43b7bd597ebde0795bf11ee20c2d129091e066c61caa3f76d804bbab0", func := "loop.example/g00251/laws.FnStacks", spec := "fnStacks", unfollowed := true, recurses := true, apart := false, narrowed := true }
def FnStacksUptoSaid : Prop := fnStacksUptoRow.holds Try.pinned (OpenSpec.upto fnStacksSpec)

/-- 'laws.FnExactBlockStep', WHERE WHAT IT READS IS OF BULK AT MOST 1048576: true; the input reads as it did. -/
def fnExactBlockStepUptoRow : OpenClaim := { program := "ytalopffpaepaaaa", sum := "6bb6dce43b7bd597ebde0795bf11ee20c2d129091e066c61caa3f76d804bbab0", func := "loop.example/g00251/laws.FnExactBlockStep", spec := "fnExactBlockStep", unfollowed := true, recurses := true, apart := false, narrowed := true }
def FnExactBlockStepUptoSaid : Prop := fnExactBlockStepUptoRow.holds Try.pinned (OpenSpec.upto fnExactBlockStepSpec)

/-- 'laws.FnExactStepStack', WHERE WHAT IT READS IS OF BULK AT MOST 1048576: true; the input reads as it did. -/
def fnExactStepStackUptoRow : OpenClaim := { program := "ytalopffpaepaaaa", sum := "6bb6dce43b7bd597ebde0795bf11ee20c2d129091e066c61caa3f76d804bbab0", func := "loop.example/g00251/laws.FnExactStepStack", spec := "fnExactStepStack", unfollowed := true, recurses := true, apart := false, narrowed := true }
def FnExactStepStackUptoSaid : Prop := fnExactStepStackUptoRow.holds Try.pinned (OpenSpec.upto fnExactStepStackSpec)

/-- 'laws.FnExactRunStack', WHERE WHAT IT READS IS OF BULK AT MOST 1048576: true; the input reads as it did. -/
def fnExactRunStackUptoRow : OpenClaim := { program := "ytalopffpaepaaaa", sum := "6bb6dce43b7bd597ebde0795bf11ee20c2d129091e066c61caa3f76d804bbab0", func := "loop.example/g00251/laws.FnExactRunStack", spec := "fnExactRunStack", unfollowed := true, recurses := true, apart := false, narrowed := true }
def FnExactRunStackUptoSaid : Prop := fnExactRunStackUptoRow.holds Try.pinned (OpenSpec.upto fnExactRunStackSpec)

end Rows
end Go.Proofs.Ytalopffpaepaaaa
