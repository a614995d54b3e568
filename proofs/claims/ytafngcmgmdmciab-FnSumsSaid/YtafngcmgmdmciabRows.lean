/-
  No cell of these rows narrows 'for every input' (looked for: loops, veiled, ifaces, maps, wideKeys, modest, calm, conditions, laid).
  DERIVED. THE GIVEN ROWS OF THIS SEAT. 3 by the template 'for every input the law returns true; each argument reads behind the call as it read before'; 0 by the template 'total and deterministic' (their statements: YtafngcmgmdmciabTotals.lean).
  GIVEN WITH THE SEED: the statements are not yours to turn. If you find one false, say at which input.
  Laid BY PROGRAM, IN A SANDBOX (cutbox-rows.mjs): the forced cells as the released guide's own fill.sh prints them over the translation c416e61c1ef5e45a… (all of the seat's roots in one cut). By AI agents, Wed Nov 11 2026. No macro, syntax, notation, axiom, sorry.
-/
import Derived.Test.YtafngcmgmdmciabChecked
import GoSem.Claim
import GoSem.ClaimJoined
import GoSem.ClaimMapViews
import Derived.JoinedTies
import Derived.KernelRfl
namespace Go.Proofs.Ytafngcmgmdmciab
/- THE CELL 'sum', in the pinned program and in every row, IS THE sha256 OF THE DUMP (.gsa) THAT YtafngcmgmdmciabProg.lean LOADS. Nothing in Lean hashes anything: it is a label: what it is worth is what the hold of that sum in a sandbox is worth. -/
noncomputable def Try.pinned : Pinned := { name := "ytafngcmgmdmciab", sum := "c416e61c1ef5e45ac485eb1b1fc1756a1f432523b825ed161fa60d903f3dfcd7", checked := Try.checked }
namespace Rows
def none {H : Type} : Left H := { results := [], args := [] }

/-- 'laws.FnSums': WHATEVER THE INPUT: true; the input reads as it did. -/
def fnSumsSpec : ChangeSpec := { name := "fnSums", fn := fun _ => fun
  | [d] => { results := [.lit (.bool true)], args := [d] }
  | _ => none }
def fnSumsRow : OpenClaim := { program := "ytafngcmgmdmciab", sum := "c416e61c1ef5e45ac485eb1b1fc1756a1f432523b825ed161fa60d903f3dfcd7", func := "loop.example/g00251/laws.FnSums", spec := "fnSums", apart := false }
def FnSumsSaid : Prop := fnSumsRow.holds Try.pinned (OpenSpec.ofChange fnSumsSpec)

/-- ITS FALSE NEIGHBOUR: 'it returns false'. Refute it at one input. -/
def fnSumsWrong : ChangeSpec := { name := "fnSums", fn := fun _ => fun
  | [d] => { results := [.lit (.bool false)], args := [d] }
  | _ => none }
def FnSumsWrongFalsely : Prop := fnSumsRow.holds Try.pinned (OpenSpec.ofChange fnSumsWrong)

/-- 'laws.FnExactBlockSums': WHATEVER THE INPUT: true; the input reads as it did. -/
def fnExactBlockSumsSpec : ChangeSpec := { name := "fnExactBlockSums", fn := fun _ => fun
  | [d] => { results := [.lit (.bool true)], args := [d] }
  | _ => none }
def fnExactBlockSumsRow : OpenClaim := { program := "ytafngcmgmdmciab", sum := "c416e61c1ef5e45ac485eb1b1fc1756a1f432523b825ed161fa60d903f3dfcd7", func := "loop.example/g00251/laws.FnExactBlockSums", spec := "fnExactBlockSums", apart := false }
def FnExactBlockSumsSaid : Prop := fnExactBlockSumsRow.holds Try.pinned (OpenSpec.ofChange fnExactBlockSumsSpec)

/-- ITS FALSE NEIGHBOUR: 'it returns false'. Refute it at one input. -/
def fnExactBlockSumsWrong : ChangeSpec := { name := "fnExactBlockSums", fn := fun _ => fun
  | [d] => { results := [.lit (.bool false)], args := [d] }
  | _ => none }
def FnExactBlockSumsWrongFalsely : Prop := fnExactBlockSumsRow.holds Try.pinned (OpenSpec.ofChange fnExactBlockSumsWrong)

/-- 'laws.FnExactBadBlock': WHATEVER THE INPUT: true; the input reads as it did. -/
def fnExactBadBlockSpec : ChangeSpec := { name := "fnExactBadBlock", fn := fun _ => fun
  | [d1, d2] => { results := [.lit (.bool true)], args := [d1, d2] }
  | _ => none }
def fnExactBadBlockRow : OpenClaim := { program := "ytafngcmgmdmciab", sum := "c416e61c1ef5e45ac485eb1b1fc1756a1f432523b825ed161fa60d903f3dfcd7", func := "loop.example/g00251/laws.FnExactBadBlock", spec := "fnExactBadBlock", apart := false }
def FnExactBadBlockSaid : Prop := fnExactBadBlockRow.holds Try.pinned (OpenSpec.ofChange fnExactBadBlockSpec)

/-- ITS FALSE NEIGHBOUR: 'it returns false'. Refute it at one input. -/
def fnExactBadBlockWrong : ChangeSpec := { name := "fnExactBadBlock", fn := fun _ => fun
  | [d1, d2] => { results := [.lit (.bool false)], args := [d1, d2] }
  | _ => none }
def FnExactBadBlockWrongFalsely : Prop := fnExactBadBlockRow.holds Try.pinned (OpenSpec.ofChange fnExactBadBlockWrong)

/- THE SECOND FORM. 'bulk': how many values and letters a reading holds, each counted each time it is reached (what is shared counts as often as it is met; a slice's spare places count too). A statement '..UptoSaid' is the law's where the arguments, and the package variables that the reading takes, are together of bulk at most 1048576: NARROWER than '..Said'. Prove '..Said' where nothing that the law and all that it calls make is longer than what came in: it says more and counts as full. Else prove '..UptoSaid'. A law counts once. -/
mutual
def uptoBulk {H : Type} : DataW H → Nat
  | .lit (.string bytes) => bytes.length + 1
  | .lit _ => 1
  | .nil => 1
  | .ptr d => uptoBulk d + 1
  | .slice elems spare => uptoBulkAll elems + uptoBulkAll spare + 1
  | .agg parts => uptoBulkAll parts + 1
  | .iface _ d => uptoBulk d + 1
  | .map entries => uptoBulkEntries entries + 1
  | .held _ => 1
def uptoBulkAll {H : Type} : List (DataW H) → Nat
  | [] => 0
  | d :: r => uptoBulk d + uptoBulkAll r
def uptoBulkEntries {H : Type} : List (Lit × DataW H) → Nat
  | [] => 0
  | x :: r => uptoBulkEntry x + uptoBulkEntries r
def uptoBulkEntry {H : Type} : Lit × DataW H → Nat
  | (.string bytes, d) => bytes.length + uptoBulk d + 1
  | (_, d) => uptoBulk d + 1
 end
def uptoSmall : (H : Type) → List (DataW H) → Bool := fun _ ds => decide (uptoBulkAll ds ≤ 1048576)
def OpenSpec.upto (s : _root_.Go.ChangeSpec) : _root_.Go.OpenSpec := { _root_.Go.OpenSpec.ofChange s with cond := some uptoSmall }

/-- 'laws.FnSums', WHERE WHAT IT READS IS OF BULK AT MOST 1048576: true; the input reads as it did. -/
def fnSumsUptoRow : OpenClaim := { program := "ytafngcmgmdmciab", sum := "c416e61c1ef5e45ac485eb1b1fc1756a1f432523b825ed161fa60d903f3dfcd7", func := "loop.example/g00251/laws.FnSums", spec := "fnSums", apart := false, narrowed := true }
def FnSumsUptoSaid : Prop := fnSumsUptoRow.holds Try.pinned (OpenSpec.upto fnSumsSpec)

/-- 'laws.FnExactBlockSums', WHERE WHAT IT READS IS OF BULK AT MOST 1048576: true; the input reads as it did. -/
def fnExactBlockSumsUptoRow : OpenClaim := { program := "ytafngcmgmdmciab", sum := "c416e61c1ef5e45ac485eb1b1fc1756a1f432523b825ed161fa60d903f3dfcd7", func := "loop.example/g00251/laws.FnExactBlockSums", spec := "fnExactBlockSums", apart := false, narrowed := true }
def FnExactBlockSumsUptoSaid : Prop := fnExactBlockSumsUptoRow.holds Try.pinned (OpenSpec.upto fnExactBlockSumsSpec)

/-- 'laws.FnExactBadBlock', WHERE WHAT IT READS IS OF BULK AT MOST 1048576: true; the input reads as it did. -/
def fnExactBadBlockUptoRow : OpenClaim := { program := "ytafngcmgmdmciab", sum := "c416e61c1ef5e45ac485eb1b1fc1756a1f432523b825ed161fa60d903f3dfcd7", func := "loop.example/g00251/laws.FnExactBadBlock", spec := "fnExactBadBlock", apart := false, narrowed := true }
def FnExactBadBlockUptoSaid : Prop := fnExactBadBlockUptoRow.holds Try.pinned (OpenSpec.upto fnExactBadBlockSpec)

end Rows
end Go.Proofs.Ytafngcmgmdmciab
