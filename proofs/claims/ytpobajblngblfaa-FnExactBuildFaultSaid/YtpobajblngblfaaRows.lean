/-
  No cell of these rows narrows 'for every input' (looked for: loops, veiled, ifaces, maps, wideKeys, modest, calm, conditions, laid).
  DERIVED. THE GIVEN ROWS OF THIS SEAT. 3 by the template 'for every input the law returns true; each argument reads behind the call as it read before'; 0 by the template 'total and deterministic' (their statements: YtpobajblngblfaaTotals.lean).
  GIVEN WITH THE SEED: the statements are not yours to turn. If you find one false, say at which input.
  Laid BY PROGRAM, IN A SANDBOX (cutbox-rows.mjs): the forced cells as the released guide's own fill.sh prints them over the translation 8e1e2a2067355182… (all of the seat's roots in one cut). By AI agents, Wed Nov 11 2026. No macro, syntax, notation, axiom, sorry.
-/
import Derived.Test.YtpobajblngblfaaChecked
import GoSem.Claim
import GoSem.ClaimJoined
import GoSem.ClaimMapViews
import Derived.JoinedTies
import Derived.KernelRfl
namespace Go.Proofs.Ytpobajblngblfaa
/- THE CELL 'sum', in the pinned program and in every row, IS THE sha256 OF THE DUMP (.gsa) THAT YtpobajblngblfaaProg.lean LOADS. Nothing in Lean hashes anything: it is a label: what it is worth is what the hold of that sum in a sandbox is worth. -/
noncomputable def Try.pinned : Pinned := { name := "ytpobajblngblfaa", sum := "8e1e2a2067355182c9e7181eda1dd8a1da113d87744e672b92f4548689490bd6", checked := Try.checked }
namespace Rows
def none {H : Type} : Left H := { results := [], args := [] }

/-- 'laws.FnExactBuildFault': WHATEVER THE INPUT: true; the input reads as it did. -/
def fnExactBuildFaultSpec : ChangeSpec := { name := "fnExactBuildFault", fn := fun _ => fun
  | [d] => { results := [.lit (.bool true)], args := [d] }
  | _ => none }
def fnExactBuildFaultRow : OpenClaim := { program := "ytpobajblngblfaa", sum := "8e1e2a2067355182c9e7181eda1dd8a1da113d87744e672b92f4548689490bd6", func := "loop.example/g00251/laws.FnExactBuildFault", spec := "fnExactBuildFault", apart := false }
def FnExactBuildFaultSaid : Prop := fnExactBuildFaultRow.holds Try.pinned (OpenSpec.ofChange fnExactBuildFaultSpec)

/-- ITS FALSE NEIGHBOUR: 'it returns false'. Refute it at one input. -/
def fnExactBuildFaultWrong : ChangeSpec := { name := "fnExactBuildFault", fn := fun _ => fun
  | [d] => { results := [.lit (.bool false)], args := [d] }
  | _ => none }
def FnExactBuildFaultWrongFalsely : Prop := fnExactBuildFaultRow.holds Try.pinned (OpenSpec.ofChange fnExactBuildFaultWrong)

/-- 'laws.FnExactPackBuild': WHATEVER THE INPUT: true; the input reads as it did. -/
def fnExactPackBuildSpec : ChangeSpec := { name := "fnExactPackBuild", fn := fun _ => fun
  | [d] => { results := [.lit (.bool true)], args := [d] }
  | _ => none }
def fnExactPackBuildRow : OpenClaim := { program := "ytpobajblngblfaa", sum := "8e1e2a2067355182c9e7181eda1dd8a1da113d87744e672b92f4548689490bd6", func := "loop.example/g00251/laws.FnExactPackBuild", spec := "fnExactPackBuild", unfollowed := true, recurses := true, apart := false }
def FnExactPackBuildSaid : Prop := fnExactPackBuildRow.holds Try.pinned (OpenSpec.ofChange fnExactPackBuildSpec)

/-- ITS FALSE NEIGHBOUR: 'it returns false'. Refute it at one input. -/
def fnExactPackBuildWrong : ChangeSpec := { name := "fnExactPackBuild", fn := fun _ => fun
  | [d] => { results := [.lit (.bool false)], args := [d] }
  | _ => none }
def FnExactPackBuildWrongFalsely : Prop := fnExactPackBuildRow.holds Try.pinned (OpenSpec.ofChange fnExactPackBuildWrong)

/-- 'laws.FnExactUnpackBuild': WHATEVER THE INPUT: true; the input reads as it did. -/
def fnExactUnpackBuildSpec : ChangeSpec := { name := "fnExactUnpackBuild", fn := fun _ => fun
  | [d] => { results := [.lit (.bool true)], args := [d] }
  | _ => none }
def fnExactUnpackBuildRow : OpenClaim := { program := "ytpobajblngblfaa", sum := "8e1e2a2067355182c9e7181eda1dd8a1da113d87744e672b92f4548689490bd6", func := "loop.example/g00251/laws.FnExactUnpackBuild", spec := "fnExactUnpackBuild", unfollowed := true, recurses := true, apart := false }
def FnExactUnpackBuildSaid : Prop := fnExactUnpackBuildRow.holds Try.pinned (OpenSpec.ofChange fnExactUnpackBuildSpec)

/-- ITS FALSE NEIGHBOUR: 'it returns false'. Refute it at one input. -/
def fnExactUnpackBuildWrong : ChangeSpec := { name := "fnExactUnpackBuild", fn := fun _ => fun
  | [d] => { results := [.lit (.bool false)], args := [d] }
  | _ => none }
def FnExactUnpackBuildWrongFalsely : Prop := fnExactUnpackBuildRow.holds Try.pinned (OpenSpec.ofChange fnExactUnpackBuildWrong)

/- THE SECOND FORM. 'bulk': how many values and letters a reading holds, each counted each time it is reached (what is shared counts as often as it is met; a slice's spare places count too). A statement '..UptoSaid' is the law's where the arguments, and the package variables that the reading takes, are together of bulk at most 1048576: NARROWER than '..Said'. Prove '..Said' where nothing that the law and all that it calls make is longer than what came in: it says more and counts as full. Else prove '..UptoSaid'. A law counts once. -/
mutual
def uptoBulk {H : Type} : DataW H → Nat
  | .lit (.string bytes) => bytes.length + 1
  | .lit _ => 1
  | .nil => 1
  | .ptr d => uptoBulk d + 1
  | .slice elems spare => uptoBulkAll elems + uptoBulkAll spare + 1
  | .agg parts => uptoBulkAll parts + 1
  | .iface _ d => uptoBulk d + 1
  | .map entries => uptoBulkEntries entries + 1
  | .held _ => 1
def uptoBulkAll {H : Type} : List (DataW H) → Nat
  | [] => 0
  | d :: r => uptoBulk d + uptoBulkAll r
def uptoBulkEntries {H : Type} : List (Lit × DataW H) → Nat
  | [] => 0
  | x :: r => uptoBulkEntry x + uptoBulkEntries r
def uptoBulkEntry {H : Type} : Lit × DataW H → Nat
  | (.string bytes, d) => bytes.length + uptoBulk d + 1
  | (_, d) => uptoBulk d + 1
 end
def uptoSmall : (H : Type) → List (DataW H) → Bool := fun _ ds => decide (uptoBulkAll ds ≤ 1048576)
def OpenSpec.upto (s : _root_.Go.ChangeSpec) : _root_.Go.OpenSpec := { _root_.Go.OpenSpec.ofChange s with cond := some uptoSmall }

/-- 'laws.FnExactBuildFault', WHERE WHAT IT READS IS OF BULK AT MOST 1048576: true; the input reads as it did. -/
def fnExactBuildFaultUptoRow : OpenClaim := { program := "ytpobajblngblfaa", sum := "8e1e2a2067355182c9e7181eda1dd8a1da113d87744e672b92f4548689490bd6", func := "loop.example/g00251/laws.FnExactBuildFault", spec := "fnExactBuildFault", apart := false, narrowed := true }
def FnExactBuildFaultUptoSaid : Prop := fnExactBuildFaultUptoRow.holds Try.pinned (OpenSpec.upto fnExactBuildFaultSpec)

/-- 'laws.FnExactPackBuild', WHERE WHAT IT READS IS OF BULK AT MOST 1048576: true; the input reads as it did. -/
def fnExactPackBuildUptoRow : OpenClaim := { program := "ytpobajblngblfaa", sum := "8e1e2a2067355182c9e7181eda1dd8a1da113d87744e672b92f4548689490bd6", func := "loop.example/g00251/laws.FnExactPackBuild", spec := "fnExactPackBuild", unfollowed := true, recurses := true, apart := false, narrowed := true }
def FnExactPackBuildUptoSaid : Prop := fnExactPackBuildUptoRow.holds Try.pinned (OpenSpec.upto fnExactPackBuildSpec)

/-- 'laws.FnExactUnpackBuild', WHERE WHAT IT READS IS OF BULK AT MOST 1048576: true; the input reads as it did. -/
def fnExactUnpackBuildUptoRow : OpenClaim := { program := "ytpobajblngblfaa", sum := "8e1e2a2067355182c9e7181eda1dd8a1da113d87744e672b92f4548689490bd6", func := "loop.example/g00251/laws.FnExactUnpackBuild", spec := "fnExactUnpackBuild", unfollowed := true, recurses := true, apart := false, narrowed := true }
def FnExactUnpackBuildUptoSaid : Prop := fnExactUnpackBuildUptoRow.holds Try.pinned (OpenSpec.upto fnExactUnpackBuildSpec)

end Rows
end Go.Proofs.Ytpobajblngblfaa
