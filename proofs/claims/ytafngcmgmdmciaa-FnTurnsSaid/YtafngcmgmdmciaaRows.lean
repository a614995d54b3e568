/-
  No cell of these rows narrows 'for every input' (looked for: loops, veiled, ifaces, maps, wideKeys, modest, calm, conditions, laid).
  DERIVED. THE GIVEN ROWS OF THIS SEAT. 11 by the template 'for every input the law returns true; each argument reads behind the call as it read before'; 0 by the template 'total and deterministic' (their statements: YtafngcmgmdmciaaTotals.lean).
  GIVEN WITH THE SEED: the statements are not yours to turn. If you find one false, say at which input.
  Laid BY PROGRAM, IN A SANDBOX (cutbox-rows.mjs): the forced cells as the released guide's own fill.sh prints them over the translation 4df0f1c0e9f92ca3… (all of the seat's roots in one cut). By AI agents, Wed Nov 11 2026. No macro, syntax, notation, axiom, sorry.
-/
import Derived.Test.YtafngcmgmdmciaaChecked
import GoSem.Claim
import GoSem.ClaimJoined
import GoSem.ClaimMapViews
import Derived.JoinedTies
import Derived.KernelRfl
namespace Go.Proofs.Ytafngcmgmdmciaa
/- THE CELL 'sum', in the pinned program and in every row, IS THE sha256 OF THE DUMP (.gsa) THAT YtafngcmgmdmciaaProg.lean LOADS. Nothing in Lean hashes anything: it is a label: what it is worth is what the hold of that sum in a sandbox is worth. -/
noncomputable def Try.pinned : Pinned := { name := "ytafngcmgmdmciaa", sum := "4df0f1c0e9f92ca35710ea856277322f1363fd75daea37705f1957ebe4a3d4d1", checked := Try.checked }
namespace Rows
def none {H : Type} : Left H := { results := [], args := [] }

/-- 'laws.FnExactStackFault': WHATEVER THE INPUT: true; the input reads as it did. -/
def fnExactStackFaultSpec : ChangeSpec := { name := "fnExactStackFault", fn := fun _ => fun
  | [d] => { results := [.lit (.bool true)], args := [d] }
  | _ => none }
def fnExactStackFaultRow : OpenClaim := { program := "ytafngcmgmdmciaa", sum := "4df0f1c0e9f92ca35710ea856277322f1363fd75daea37705f1957ebe4a3d4d1", func := "loop.example/g00251/laws.FnExactStackFault", spec := "fnExactStackFault", apart := false }
def FnExactStackFaultSaid : Prop := fnExactStackFaultRow.holds Try.pinned (OpenSpec.ofChange fnExactStackFaultSpec)

/-- ITS FALSE NEIGHBOUR: 'it returns false'. Refute it at one input. -/
def fnExactStackFaultWrong : ChangeSpec := { name := "fnExactStackFault", fn := fun _ => fun
  | [d] => { results := [.lit (.bool false)], args := [d] }
  | _ => none }
def FnExactStackFaultWrongFalsely : Prop := fnExactStackFaultRow.holds Try.pinned (OpenSpec.ofChange fnExactStackFaultWrong)

/-- 'laws.FnExactStartStack': WHATEVER THE INPUT: true; the input reads as it did. -/
def fnExactStartStackSpec : ChangeSpec := { name := "fnExactStartStack", fn := fun _ => fun
  | [d] => { results := [.lit (.bool true)], args := [d] }
  | _ => none }
def fnExactStartStackRow : OpenClaim := { program := "ytafngcmgmdmciaa", sum := "4df0f1c0e9f92ca35710ea856277322f1363fd75daea37705f1957ebe4a3d4d1", func := "loop.example/g00251/laws.FnExactStartStack", spec := "fnExactStartStack", apart := false }
def FnExactStartStackSaid : Prop := fnExactStartStackRow.holds Try.pinned (OpenSpec.ofChange fnExactStartStackSpec)

/-- ITS FALSE NEIGHBOUR: 'it returns false'. Refute it at one input. -/
def fnExactStartStackWrong : ChangeSpec := { name := "fnExactStartStack", fn := fun _ => fun
  | [d] => { results := [.lit (.bool false)], args := [d] }
  | _ => none }
def FnExactStartStackWrongFalsely : Prop := fnExactStartStackRow.holds Try.pinned (OpenSpec.ofChange fnExactStartStackWrong)

/-- 'laws.FnExactStepStack': WHATEVER THE INPUT: true; the input reads as it did. -/
def fnExactStepStackSpec : ChangeSpec := { name := "fnExactStepStack", fn := fun _ => fun
  | [d1, d2] => { results := [.lit (.bool true)], args := [d1, d2] }
  | _ => none }
def fnExactStepStackRow : OpenClaim := { program := "ytafngcmgmdmciaa", sum := "4df0f1c0e9f92ca35710ea856277322f1363fd75daea37705f1957ebe4a3d4d1", func := "loop.example/g00251/laws.FnExactStepStack", spec := "fnExactStepStack", unfollowed := true, recurses := true, apart := false }
def FnExactStepStackSaid : Prop := fnExactStepStackRow.holds Try.pinned (OpenSpec.ofChange fnExactStepStackSpec)

/-- ITS FALSE NEIGHBOUR: 'it returns false'. Refute it at one input. -/
def fnExactStepStackWrong : ChangeSpec := { name := "fnExactStepStack", fn := fun _ => fun
  | [d1, d2] => { results := [.lit (.bool false)], args := [d1, d2] }
  | _ => none }
def FnExactStepStackWrongFalsely : Prop := fnExactStepStackRow.holds Try.pinned (OpenSpec.ofChange fnExactStepStackWrong)

/-- 'laws.FnExactRunStack': WHATEVER THE INPUT: true; the input reads as it did. -/
def fnExactRunStackSpec : ChangeSpec := { name := "fnExactRunStack", fn := fun _ => fun
  | [d1, d2, d3] => { results := [.lit (.bool true)], args := [d1, d2, d3] }
  | _ => none }
def fnExactRunStackRow : OpenClaim := { program := "ytafngcmgmdmciaa", sum := "4df0f1c0e9f92ca35710ea856277322f1363fd75daea37705f1957ebe4a3d4d1", func := "loop.example/g00251/laws.FnExactRunStack", spec := "fnExactRunStack", unfollowed := true, recurses := true, apart := false }
def FnExactRunStackSaid : Prop := fnExactRunStackRow.holds Try.pinned (OpenSpec.ofChange fnExactRunStackSpec)

/-- ITS FALSE NEIGHBOUR: 'it returns false'. Refute it at one input. -/
def fnExactRunStackWrong : ChangeSpec := { name := "fnExactRunStack", fn := fun _ => fun
  | [d1, d2, d3] => { results := [.lit (.bool false)], args := [d1, d2, d3] }
  | _ => none }
def FnExactRunStackWrongFalsely : Prop := fnExactRunStackRow.holds Try.pinned (OpenSpec.ofChange fnExactRunStackWrong)

/-- 'laws.FnExactArgsOfStack': WHATEVER THE INPUT: true; the input reads as it did. -/
def fnExactArgsOfStackSpec : ChangeSpec := { name := "fnExactArgsOfStack", fn := fun _ => fun
  | [d] => { results := [.lit (.bool true)], args := [d] }
  | _ => none }
def fnExactArgsOfStackRow : OpenClaim := { program := "ytafngcmgmdmciaa", sum := "4df0f1c0e9f92ca35710ea856277322f1363fd75daea37705f1957ebe4a3d4d1", func := "loop.example/g00251/laws.FnExactArgsOfStack", spec := "fnExactArgsOfStack", apart := false }
def FnExactArgsOfStackSaid : Prop := fnExactArgsOfStackRow.holds Try.pinned (OpenSpec.ofChange fnExactArgsOfStackSpec)

/-- ITS FALSE NEIGHBOUR: 'it returns false'. Refute it at one input. -/
def fnExactArgsOfStackWrong : ChangeSpec := { name := "fnExactArgsOfStack", fn := fun _ => fun
  | [d] => { results := [.lit (.bool false)], args := [d] }
  | _ => none }
def FnExactArgsOfStackWrongFalsely : Prop := fnExactArgsOfStackRow.holds Try.pinned (OpenSpec.ofChange fnExactArgsOfStackWrong)

/-- 'laws.FnExactSignOf': WHATEVER THE INPUT: true; the input reads as it did. -/
def fnExactSignOfSpec : ChangeSpec := { name := "fnExactSignOf", fn := fun _ => fun
  | [d1, d2] => { results := [.lit (.bool true)], args := [d1, d2] }
  | _ => none }
def fnExactSignOfRow : OpenClaim := { program := "ytafngcmgmdmciaa", sum := "4df0f1c0e9f92ca35710ea856277322f1363fd75daea37705f1957ebe4a3d4d1", func := "loop.example/g00251/laws.FnExactSignOf", spec := "fnExactSignOf", apart := false }
def FnExactSignOfSaid : Prop := fnExactSignOfRow.holds Try.pinned (OpenSpec.ofChange fnExactSignOfSpec)

/-- ITS FALSE NEIGHBOUR: 'it returns false'. Refute it at one input. -/
def fnExactSignOfWrong : ChangeSpec := { name := "fnExactSignOf", fn := fun _ => fun
  | [d1, d2] => { results := [.lit (.bool false)], args := [d1, d2] }
  | _ => none }
def FnExactSignOfWrongFalsely : Prop := fnExactSignOfRow.holds Try.pinned (OpenSpec.ofChange fnExactSignOfWrong)

/-- 'laws.FnStacks': WHATEVER THE INPUT: true; the input reads as it did. -/
def fnStacksSpec : ChangeSpec := { name := "fnStacks", fn := fun _ => fun
  | [d] => { results := [.lit (.bool true)], args := [d] }
  | _ => none }
def fnStacksRow : OpenClaim := { program := "ytafngcmgmdmciaa", sum := "4df0f1c0e9f92ca35710ea856277322f1363fd75daea37705f1957ebe4a3d4d1", func := "loop.example/g00251/laws.FnStacks", spec := "fnStacks", unfollowed := true, recurses := true, apart := false }
def FnStacksSaid : Prop := fnStacksRow.holds Try.pinned (OpenSpec.ofChange fnStacksSpec)

/-- ITS FALSE NEIGHBOUR: 'it returns false'. Refute it at one input. -/
def fnStacksWrong : ChangeSpec := { name := "fnStacks", fn := fun _ => fun
  | [d] => { results := [.lit (.bool false)], args := [d] }
  | _ => none }
def FnStacksWrongFalsely : Prop := fnStacksRow.holds Try.pinned (OpenSpec.ofChange fnStacksWrong)

/-- 'laws.FnExactWordsFault': WHATEVER THE INPUT: true; the input reads as it did. -/
def fnExactWordsFaultSpec : ChangeSpec := { name := "fnExactWordsFault", fn := fun _ => fun
  | [d] => { results := [.lit (.bool true)], args := [d] }
  | _ => none }
def fnExactWordsFaultRow : OpenClaim := { program := "ytafngcmgmdmciaa", sum := "4df0f1c0e9f92ca35710ea856277322f1363fd75daea37705f1957ebe4a3d4d1", func := "loop.example/g00251/laws.FnExactWordsFault", spec := "fnExactWordsFault", apart := false }
def FnExactWordsFaultSaid : Prop := fnExactWordsFaultRow.holds Try.pinned (OpenSpec.ofChange fnExactWordsFaultSpec)

/-- ITS FALSE NEIGHBOUR: 'it returns false'. Refute it at one input. -/
def fnExactWordsFaultWrong : ChangeSpec := { name := "fnExactWordsFault", fn := fun _ => fun
  | [d] => { results := [.lit (.bool false)], args := [d] }
  | _ => none }
def FnExactWordsFaultWrongFalsely : Prop := fnExactWordsFaultRow.holds Try.pinned (OpenSpec.ofChange fnExactWordsFaultWrong)

/-- 'laws.FnExactCrcWords': WHATEVER THE INPUT: true; the input reads as it did. -/
def fnExactCrcWordsSpec : ChangeSpec := { name := "fnExactCrcWords", fn := fun _ => fun
  | [d] => { results := [.lit (.bool true)], args := [d] }
  | _ => none }
def fnExactCrcWordsRow : OpenClaim := { program := "ytafngcmgmdmciaa", sum := "4df0f1c0e9f92ca35710ea856277322f1363fd75daea37705f1957ebe4a3d4d1", func := "loop.example/g00251/laws.FnExactCrcWords", spec := "fnExactCrcWords", apart := false }
def FnExactCrcWordsSaid : Prop := fnExactCrcWordsRow.holds Try.pinned (OpenSpec.ofChange fnExactCrcWordsSpec)

/-- ITS FALSE NEIGHBOUR: 'it returns false'. Refute it at one input. -/
def fnExactCrcWordsWrong : ChangeSpec := { name := "fnExactCrcWords", fn := fun _ => fun
  | [d] => { results := [.lit (.bool false)], args := [d] }
  | _ => none }
def FnExactCrcWordsWrongFalsely : Prop := fnExactCrcWordsRow.holds Try.pinned (OpenSpec.ofChange fnExactCrcWordsWrong)

/-- 'laws.FnExactCrcFast': WHATEVER THE INPUT: true; the input reads as it did. -/
def fnExactCrcFastSpec : ChangeSpec := { name := "fnExactCrcFast", fn := fun _ => fun
  | [d] => { results := [.lit (.bool true)], args := [d] }
  | _ => none }
def fnExactCrcFastRow : OpenClaim := { program := "ytafngcmgmdmciaa", sum := "4df0f1c0e9f92ca35710ea856277322f1363fd75daea37705f1957ebe4a3d4d1", func := "loop.example/g00251/laws.FnExactCrcFast", spec := "fnExactCrcFast", apart := false }
def FnExactCrcFastSaid : Prop := fnExactCrcFastRow.holds Try.pinned (OpenSpec.ofChange fnExactCrcFastSpec)

/-- ITS FALSE NEIGHBOUR: 'it returns false'. Refute it at one input. -/
def fnExactCrcFastWrong : ChangeSpec := { name := "fnExactCrcFast", fn := fun _ => fun
  | [d] => { results := [.lit (.bool false)], args := [d] }
  | _ => none }
def FnExactCrcFastWrongFalsely : Prop := fnExactCrcFastRow.holds Try.pinned (OpenSpec.ofChange fnExactCrcFastWrong)

/-- 'laws.FnTurns': WHATEVER THE INPUT: true; the input reads as it did. -/
def fnTurnsSpec : ChangeSpec := { name := "fnTurns", fn := fun _ => fun
  | [d] => { results := [.lit (.bool true)], args := [d] }
  | _ => none }
def fnTurnsRow : OpenClaim := { program := "ytafngcmgmdmciaa", sum := "4df0f1c0e9f92ca35710ea856277322f1363fd75daea37705f1957ebe4a3d4d1", func := "loop.example/g00251/laws.FnTurns", spec := "fnTurns", apart := false }
def FnTurnsSaid : Prop := fnTurnsRow.holds Try.pinned (OpenSpec.ofChange fnTurnsSpec)

/-- ITS FALSE NEIGHBOUR: 'it returns false'. Refute it at one input. -/
def fnTurnsWrong : ChangeSpec := { name := "fnTurns", fn := fun _ => fun
  | [d] => { results := [.lit (.bool false)], args := [d] }
  | _ => none }
def FnTurnsWrongFalsely : Prop := fnTurnsRow.holds Try.pinned (OpenSpec.ofChange fnTurnsWrong)

/- THE SECOND FORM. 'bulk': how many values and letters a reading holds, each counted each time it is reached (what is shared counts as often as it is met; a slice's spare places count too). A statement '..UptoSaid' is the law's where the arguments, and the package variables that the reading takes, are together of bulk at most 1048576: NARROWER than '..Said'. Prove '..Said' where nothing that the law and all that it calls make is longer than what came in: it says more and counts as full. Else prove '..UptoSaid'. A law counts once. -/
mutual
def uptoBulk {H : Type} : DataW H → Nat
  | .lit (.string bytes) => bytes.length + 1
  | .lit _ => 1
  | .nil => 1
  | .ptr d => uptoBulk d + 1
  | .slice elems spare => uptoBulkAll elems + uptoBulkAll spare + 1
  | .agg parts => uptoBulkAll parts + 1
  | .iface _ d => uptoBulk d + 1
  | .map entries => uptoBulkEntries entries + 1
  | .held _ => 1
def uptoBulkAll {H : Type} : List (DataW H) → Nat
  | [] => 0
  | d :: r => uptoBulk d + uptoBulkAll r
def uptoBulkEntries {H : Type} : List (Lit × DataW H) → Nat
  | [] => 0
  | x :: r => uptoBulkEntry x + uptoBulkEntries r
def uptoBulkEntry {H : Type} : Lit × DataW H → Nat
  | (.string bytes, d) => bytes.length + uptoBulk d + 1
  | (_, d) => uptoBulk d + 1
 end
def uptoSmall : (H : Type) → List (DataW H) → Bool := fun _ ds => decide (uptoBulkAll ds ≤ 1048576)
def OpenSpec.upto (s : _root_.Go.ChangeSpec) : _root_.Go.OpenSpec := { _root_.Go.OpenSpec.ofChange s with cond := some uptoSmall }

/-- 'laws.FnExactStackFault', WHERE WHAT IT READS IS OF BULK AT MOST 1048576: true; the input reads as it did. -/
def fnExactStackFaultUptoRow : OpenClaim := { program := "ytafngcmgmdmciaa", sum := "4df0f1c0e9f92ca35710ea856277322f1363fd75daea37705f1957ebe4a3d4d1", func := "loop.example/g00251/laws.FnExactStackFault", spec := "fnExactStackFault", apart := false, narrowed := true }
def FnExactStackFaultUptoSaid : Prop := fnExactStackFaultUptoRow.holds Try.pinned (OpenSpec.upto fnExactStackFaultSpec)

/-- 'laws.FnExactStartStack', WHERE WHAT IT READS IS OF BULK AT MOST 1048576: true; the input reads as it did. -/
def fnExactStartStackUptoRow : OpenClaim := { program := "ytafngcmgmdmciaa", sum := "4df0f1c0e9f92ca35710ea856277322f1363fd75daea37705f1957ebe4a3d4d1", func := "loop.example/g00251/laws.FnExactStartStack", spec := "fnExactStartStack", apart := false, narrowed := true }
def FnExactStartStackUptoSaid : Prop := fnExactStartStackUptoRow.holds Try.pinned (OpenSpec.upto fnExactStartStackSpec)

/-- 'laws.FnExactStepStack', WHERE WHAT IT READS IS OF BULK AT MOST 1048576: true; the input reads as it did. -/
def fnExactStepStackUptoRow : OpenClaim := { program := "ytafngcmgmdmciaa", sum := "4df0f1c0e9f92ca35710ea856277322f1363fd75daea37705f1957ebe4a3d4d1", func := "loop.example/g00251/laws.FnExactStepStack", spec := "fnExactStepStack", unfollowed := true, recurses := true, apart := false, narrowed := true }
def FnExactStepStackUptoSaid : Prop := fnExactStepStackUptoRow.holds Try.pinned (OpenSpec.upto fnExactStepStackSpec)

/-- 'laws.FnExactRunStack', WHERE WHAT IT READS IS OF BULK AT MOST 1048576: true; the input reads as it did. -/
def fnExactRunStackUptoRow : OpenClaim := { program := "ytafngcmgmdmciaa", sum := "4df0f1c0e9f92ca35710ea856277322f1363fd75daea37705f1957ebe4a3d4d1", func := "loop.example/g00251/laws.FnExactRunStack", spec := "fnExactRunStack", unfollowed := true, recurses := true, apart := false, narrowed := true }
def FnExactRunStackUptoSaid : Prop := fnExactRunStackUptoRow.holds Try.pinned (OpenSpec.upto fnExactRunStackSpec)

/-- 'laws.FnExactArgsOfStack', WHERE WHAT IT READS IS OF BULK AT MOST 1048576: true; the input reads as it did. -/
def fnExactArgsOfStackUptoRow : OpenClaim := { program := "ytafngcmgmdmciaa", sum := "4df0f1c0e9f92ca35710ea856277322f1363fd75daea37705f1957ebe4a3d4d1", func := "loop.example/g00251/laws.FnExactArgsOfStack", spec := "fnExactArgsOfStack", apart := false, narrowed := true }
def FnExactArgsOfStackUptoSaid : Prop := fnExactArgsOfStackUptoRow.holds Try.pinned (OpenSpec.upto fnExactArgsOfStackSpec)

/-- 'laws.FnExactSignOf', WHERE WHAT IT READS IS OF BULK AT MOST 1048576: true; the input reads as it did. -/
def fnExactSignOfUptoRow : OpenClaim := { program := "ytafngcmgmdmciaa", sum := "4df0f1c0e9f92ca35710ea856277322f1363fd75daea37705f1957ebe4a3d4d1", func := "loop.example/g00251/laws.FnExactSignOf", spec := "fnExactSignOf", apart := false, narrowed := true }
def FnExactSignOfUptoSaid : Prop := fnExactSignOfUptoRow.holds Try.pinned (OpenSpec.upto fnExactSignOfSpec)

/-- 'laws.FnStacks', WHERE WHAT IT READS IS OF BULK AT MOST 1048576: true; the input reads as it did. -/
def fnStacksUptoRow : OpenClaim := { program := "ytafngcmgmdmciaa", sum := "4df0f1c0e9f92ca35710ea856277322f1363fd75daea37705f1957ebe4a3d4d1", func := "loop.example/g00251/laws.FnStacks", spec := "fnStacks", unfollowed := true, recurses := true, apart := false, narrowed := true }
def FnStacksUptoSaid : Prop := fnStacksUptoRow.holds Try.pinned (OpenSpec.upto fnStacksSpec)

/-- 'laws.FnExactWordsFault', WHERE WHAT IT READS IS OF BULK AT MOST 1048576: true; the input reads as it did. -/
def fnExactWordsFaultUptoRow : OpenClaim := { program := "ytafngcmgmdmciaa", sum := "4df0f1c0e9f92ca35710ea856277322f1363fd75daea37705f1957ebe4a3d4d1", func := "loop.example/g00251/laws.FnExactWordsFault", spec := "fnExactWordsFault", apart := false, narrowed := true }
def FnExactWordsFaultUptoSaid : Prop := fnExactWordsFaultUptoRow.holds Try.pinned (OpenSpec.upto fnExactWordsFaultSpec)

/-- 'laws.FnExactCrcWords', WHERE WHAT IT READS IS OF BULK AT MOST 1048576: true; the input reads as it did. -/
def fnExactCrcWordsUptoRow : OpenClaim := { program := "ytafngcmgmdmciaa", sum := "4df0f1c0e9f92ca35710ea856277322f1363fd75daea37705f1957ebe4a3d4d1", func := "loop.example/g00251/laws.FnExactCrcWords", spec := "fnExactCrcWords", apart := false, narrowed := true }
def FnExactCrcWordsUptoSaid : Prop := fnExactCrcWordsUptoRow.holds Try.pinned (OpenSpec.upto fnExactCrcWordsSpec)

/-- 'laws.FnExactCrcFast', WHERE WHAT IT READS IS OF BULK AT MOST 1048576: true; the input reads as it did. -/
def fnExactCrcFastUptoRow : OpenClaim := { program := "ytafngcmgmdmciaa", sum := "4df0f1c0e9f92ca35710ea856277322f1363fd75daea37705f1957ebe4a3d4d1", func := "loop.example/g00251/laws.FnExactCrcFast", spec := "fnExactCrcFast", apart := false, narrowed := true }
def FnExactCrcFastUptoSaid : Prop := fnExactCrcFastUptoRow.holds Try.pinned (OpenSpec.upto fnExactCrcFastSpec)

/-- 'laws.FnTurns', WHERE WHAT IT READS IS OF BULK AT MOST 1048576: true; the input reads as it did. -/
def fnTurnsUptoRow : OpenClaim := { program := "ytafngcmgmdmciaa", sum := "4df0f1c0e9f92ca35710ea856277322f1363fd75daea37705f1957ebe4a3d4d1", func := "loop.example/g00251/laws.FnTurns", spec := "fnTurns", apart := false, narrowed := true }
def FnTurnsUptoSaid : Prop := fnTurnsUptoRow.holds Try.pinned (OpenSpec.upto fnTurnsSpec)

end Rows
end Go.Proofs.Ytafngcmgmdmciaa
