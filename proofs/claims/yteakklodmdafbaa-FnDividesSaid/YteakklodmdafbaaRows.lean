/-
  No cell of these rows narrows 'for every input' (looked for: loops, veiled, ifaces, maps, wideKeys, modest, calm, conditions, laid).
  DERIVED. THE GIVEN ROWS OF THIS SEAT. 9 by the template 'for every input the law returns true; each argument reads behind the call as it read before'; 0 by the template 'total and deterministic' (their statements: YteakklodmdafbaaTotals.lean).
  GIVEN WITH THE SEED: the statements are not yours to turn. If you find one false, say at which input.
  Laid BY PROGRAM, IN A SANDBOX (cutbox-rows.mjs): the forced cells as the released guide's own fill.sh prints them over the translation 13fc8ce2f842f934… (all of the seat's roots in one cut). By AI agents, Wed Nov 11 2026. No macro, syntax, notation, axiom, sorry.
-/
import Derived.Test.YteakklodmdafbaaChecked
import GoSem.Claim
import GoSem.ClaimJoined
import GoSem.ClaimMapViews
import Derived.JoinedTies
import Derived.KernelRfl
namespace Go.Proofs.Yteakklodmdafbaa
/- THE CELL 'sum', in the pinned program and in every row, IS THE sha256 OF THE DUMP (.gsa) THAT YteakklodmdafbaaProg.lean LOADS. Nothing in Lean hashes anything: it is a label: what it is worth is what the hold of that sum in a sandbox is worth. -/
noncomputable def Try.pinned : Pinned := { name := "yteakklodmdafbaa", sum := "13fc8ce2f842f9342efee825daf5d917b0701d0080b2d5b6292a11b71817d4ac", checked := Try.checked }
namespace Rows
def none {H : Type} : Left H := { results := [], args := [] }

/-- 'laws.FnUpside': WHATEVER THE INPUT: true; the input reads as it did. -/
def fnUpsideSpec : ChangeSpec := { name := "fnUpside", fn := fun _ => fun
  | [d] => { results := [.lit (.bool true)], args := [d] }
  | _ => none }
def fnUpsideRow : OpenClaim := { program := "yteakklodmdafbaa", sum := "13fc8ce2f842f9342efee825daf5d917b0701d0080b2d5b6292a11b71817d4ac", func := "loop.example/g00251/laws.FnUpside", spec := "fnUpside", unfollowed := true, recurses := true, apart := false }
def FnUpsideSaid : Prop := fnUpsideRow.holds Try.pinned (OpenSpec.ofChange fnUpsideSpec)

/-- ITS FALSE NEIGHBOUR: 'it returns false'. Refute it at one input. -/
def fnUpsideWrong : ChangeSpec := { name := "fnUpside", fn := fun _ => fun
  | [d] => { results := [.lit (.bool false)], args := [d] }
  | _ => none }
def FnUpsideWrongFalsely : Prop := fnUpsideRow.holds Try.pinned (OpenSpec.ofChange fnUpsideWrong)

/-- 'laws.FnDivides': WHATEVER THE INPUT: true; the input reads as it did. -/
def fnDividesSpec : ChangeSpec := { name := "fnDivides", fn := fun _ => fun
  | [d] => { results := [.lit (.bool true)], args := [d] }
  | _ => none }
def fnDividesRow : OpenClaim := { program := "yteakklodmdafbaa", sum := "13fc8ce2f842f9342efee825daf5d917b0701d0080b2d5b6292a11b71817d4ac", func := "loop.example/g00251/laws.FnDivides", spec := "fnDivides", unfollowed := true, recurses := true, apart := false }
def FnDividesSaid : Prop := fnDividesRow.holds Try.pinned (OpenSpec.ofChange fnDividesSpec)

/-- ITS FALSE NEIGHBOUR: 'it returns false'. Refute it at one input. -/
def fnDividesWrong : ChangeSpec := { name := "fnDivides", fn := fun _ => fun
  | [d] => { results := [.lit (.bool false)], args := [d] }
  | _ => none }
def FnDividesWrongFalsely : Prop := fnDividesRow.holds Try.pinned (OpenSpec.ofChange fnDividesWrong)

/-- 'laws.FnExactSignedOf': WHATEVER THE INPUT: true; the input reads as it did. -/
def fnExactSignedOfSpec : ChangeSpec := { name := "fnExactSignedOf", fn := fun _ => fun
  | [d] => { results := [.lit (.bool true)], args := [d] }
  | _ => none }
def fnExactSignedOfRow : OpenClaim := { program := "yteakklodmdafbaa", sum := "13fc8ce2f842f9342efee825daf5d917b0701d0080b2d5b6292a11b71817d4ac", func := "loop.example/g00251/laws.FnExactSignedOf", spec := "fnExactSignedOf", apart := false }
def FnExactSignedOfSaid : Prop := fnExactSignedOfRow.holds Try.pinned (OpenSpec.ofChange fnExactSignedOfSpec)

/-- ITS FALSE NEIGHBOUR: 'it returns false'. Refute it at one input. -/
def fnExactSignedOfWrong : ChangeSpec := { name := "fnExactSignedOf", fn := fun _ => fun
  | [d] => { results := [.lit (.bool false)], args := [d] }
  | _ => none }
def FnExactSignedOfWrongFalsely : Prop := fnExactSignedOfRow.holds Try.pinned (OpenSpec.ofChange fnExactSignedOfWrong)

/-- 'laws.FnExactWordOf': WHATEVER THE INPUT: true; the input reads as it did. -/
def fnExactWordOfSpec : ChangeSpec := { name := "fnExactWordOf", fn := fun _ => fun
  | [d] => { results := [.lit (.bool true)], args := [d] }
  | _ => none }
def fnExactWordOfRow : OpenClaim := { program := "yteakklodmdafbaa", sum := "13fc8ce2f842f9342efee825daf5d917b0701d0080b2d5b6292a11b71817d4ac", func := "loop.example/g00251/laws.FnExactWordOf", spec := "fnExactWordOf", apart := false }
def FnExactWordOfSaid : Prop := fnExactWordOfRow.holds Try.pinned (OpenSpec.ofChange fnExactWordOfSpec)

/-- ITS FALSE NEIGHBOUR: 'it returns false'. Refute it at one input. -/
def fnExactWordOfWrong : ChangeSpec := { name := "fnExactWordOf", fn := fun _ => fun
  | [d] => { results := [.lit (.bool false)], args := [d] }
  | _ => none }
def FnExactWordOfWrongFalsely : Prop := fnExactWordOfRow.holds Try.pinned (OpenSpec.ofChange fnExactWordOfWrong)

/-- 'laws.FnExactComplement': WHATEVER THE INPUT: true; the input reads as it did. -/
def fnExactComplementSpec : ChangeSpec := { name := "fnExactComplement", fn := fun _ => fun
  | [d] => { results := [.lit (.bool true)], args := [d] }
  | _ => none }
def fnExactComplementRow : OpenClaim := { program := "yteakklodmdafbaa", sum := "13fc8ce2f842f9342efee825daf5d917b0701d0080b2d5b6292a11b71817d4ac", func := "loop.example/g00251/laws.FnExactComplement", spec := "fnExactComplement", apart := false }
def FnExactComplementSaid : Prop := fnExactComplementRow.holds Try.pinned (OpenSpec.ofChange fnExactComplementSpec)

/-- ITS FALSE NEIGHBOUR: 'it returns false'. Refute it at one input. -/
def fnExactComplementWrong : ChangeSpec := { name := "fnExactComplement", fn := fun _ => fun
  | [d] => { results := [.lit (.bool false)], args := [d] }
  | _ => none }
def FnExactComplementWrongFalsely : Prop := fnExactComplementRow.holds Try.pinned (OpenSpec.ofChange fnExactComplementWrong)

/-- 'laws.FnExactBinaryOf': WHATEVER THE INPUT: true; the input reads as it did. -/
def fnExactBinaryOfSpec : ChangeSpec := { name := "fnExactBinaryOf", fn := fun _ => fun
  | [d1, d2, d3] => { results := [.lit (.bool true)], args := [d1, d2, d3] }
  | _ => none }
def fnExactBinaryOfRow : OpenClaim := { program := "yteakklodmdafbaa", sum := "13fc8ce2f842f9342efee825daf5d917b0701d0080b2d5b6292a11b71817d4ac", func := "loop.example/g00251/laws.FnExactBinaryOf", spec := "fnExactBinaryOf", unfollowed := true, recurses := true, apart := false }
def FnExactBinaryOfSaid : Prop := fnExactBinaryOfRow.holds Try.pinned (OpenSpec.ofChange fnExactBinaryOfSpec)

/-- ITS FALSE NEIGHBOUR: 'it returns false'. Refute it at one input. -/
def fnExactBinaryOfWrong : ChangeSpec := { name := "fnExactBinaryOf", fn := fun _ => fun
  | [d1, d2, d3] => { results := [.lit (.bool false)], args := [d1, d2, d3] }
  | _ => none }
def FnExactBinaryOfWrongFalsely : Prop := fnExactBinaryOfRow.holds Try.pinned (OpenSpec.ofChange fnExactBinaryOfWrong)

/-- 'laws.FnExactNegOf': WHATEVER THE INPUT: true; the input reads as it did. -/
def fnExactNegOfSpec : ChangeSpec := { name := "fnExactNegOf", fn := fun _ => fun
  | [d] => { results := [.lit (.bool true)], args := [d] }
  | _ => none }
def fnExactNegOfRow : OpenClaim := { program := "yteakklodmdafbaa", sum := "13fc8ce2f842f9342efee825daf5d917b0701d0080b2d5b6292a11b71817d4ac", func := "loop.example/g00251/laws.FnExactNegOf", spec := "fnExactNegOf", apart := false }
def FnExactNegOfSaid : Prop := fnExactNegOfRow.holds Try.pinned (OpenSpec.ofChange fnExactNegOfSpec)

/-- ITS FALSE NEIGHBOUR: 'it returns false'. Refute it at one input. -/
def fnExactNegOfWrong : ChangeSpec := { name := "fnExactNegOf", fn := fun _ => fun
  | [d] => { results := [.lit (.bool false)], args := [d] }
  | _ => none }
def FnExactNegOfWrongFalsely : Prop := fnExactNegOfRow.holds Try.pinned (OpenSpec.ofChange fnExactNegOfWrong)

/-- 'laws.FnExactNotOf': WHATEVER THE INPUT: true; the input reads as it did. -/
def fnExactNotOfSpec : ChangeSpec := { name := "fnExactNotOf", fn := fun _ => fun
  | [d] => { results := [.lit (.bool true)], args := [d] }
  | _ => none }
def fnExactNotOfRow : OpenClaim := { program := "yteakklodmdafbaa", sum := "13fc8ce2f842f9342efee825daf5d917b0701d0080b2d5b6292a11b71817d4ac", func := "loop.example/g00251/laws.FnExactNotOf", spec := "fnExactNotOf", apart := false }
def FnExactNotOfSaid : Prop := fnExactNotOfRow.holds Try.pinned (OpenSpec.ofChange fnExactNotOfSpec)

/-- ITS FALSE NEIGHBOUR: 'it returns false'. Refute it at one input. -/
def fnExactNotOfWrong : ChangeSpec := { name := "fnExactNotOf", fn := fun _ => fun
  | [d] => { results := [.lit (.bool false)], args := [d] }
  | _ => none }
def FnExactNotOfWrongFalsely : Prop := fnExactNotOfRow.holds Try.pinned (OpenSpec.ofChange fnExactNotOfWrong)

/-- 'laws.FnExactBinaryInv': WHATEVER THE INPUT: true; the input reads as it did. -/
def fnExactBinaryInvSpec : ChangeSpec := { name := "fnExactBinaryInv", fn := fun _ => fun
  | [d1, d2, d3] => { results := [.lit (.bool true)], args := [d1, d2, d3] }
  | _ => none }
def fnExactBinaryInvRow : OpenClaim := { program := "yteakklodmdafbaa", sum := "13fc8ce2f842f9342efee825daf5d917b0701d0080b2d5b6292a11b71817d4ac", func := "loop.example/g00251/laws.FnExactBinaryInv", spec := "fnExactBinaryInv", unfollowed := true, recurses := true, apart := false }
def FnExactBinaryInvSaid : Prop := fnExactBinaryInvRow.holds Try.pinned (OpenSpec.ofChange fnExactBinaryInvSpec)

/-- ITS FALSE NEIGHBOUR: 'it returns false'. Refute it at one input. -/
def fnExactBinaryInvWrong : ChangeSpec := { name := "fnExactBinaryInv", fn := fun _ => fun
  | [d1, d2, d3] => { results := [.lit (.bool false)], args := [d1, d2, d3] }
  | _ => none }
def FnExactBinaryInvWrongFalsely : Prop := fnExactBinaryInvRow.holds Try.pinned (OpenSpec.ofChange fnExactBinaryInvWrong)

/- THE SECOND FORM. 'bulk': how many values and letters a reading holds, each counted each time it is reached (what is shared counts as often as it is met; a slice's spare places count too). A statement '..UptoSaid' is the law's where the arguments, and the package variables that the reading takes, are together of bulk at most 1048576: NARROWER than '..Said'. Prove '..Said' where nothing that the law and all that it calls make is longer than what came in: it says more and counts as full. Else prove '..UptoSaid'. A law counts once. -/
mutual
def uptoBulk {H : Type} : DataW H → Nat
  | .lit (.string bytes) => bytes.length + 1
  | .lit _ => 1
  | .nil => 1
  | .ptr d => uptoBulk d + 1
  | .slice elems spare => uptoBulkAll elems + uptoBulkAll spare + 1
  | .agg parts => uptoBulkAll parts + 1
  | .iface _ d => uptoBulk d + 1
  | .map entries => uptoBulkEntries entries + 1
  | .held _ => 1
def uptoBulkAll {H : Type} : List (DataW H) → Nat
  | [] => 0
  | d :: r => uptoBulk d + uptoBulkAll r
def uptoBulkEntries {H : Type} : List (Lit × DataW H) → Nat
  | [] => 0
  | x :: r => uptoBulkEntry x + uptoBulkEntries r
def uptoBulkEntry {H : Type} : Lit × DataW H → Nat
  | (.string bytes, d) => bytes.length + uptoBulk d + 1
  | (_, d) => uptoBulk d + 1
 end
def uptoSmall : (H : Type) → List (DataW H) → Bool := fun _ ds => decide (uptoBulkAll ds ≤ 1048576)
def OpenSpec.upto (s : _root_.Go.ChangeSpec) : _root_.Go.OpenSpec := { _root_.Go.OpenSpec.ofChange s with cond := some uptoSmall }

/-- 'laws.FnUpside', WHERE WHAT IT READS IS OF BULK AT MOST 1048576: true; the input reads as it did. -/
def fnUpsideUptoRow : OpenClaim := { program := "yteakklodmdafbaa", sum := "13fc8ce2f842f9342efee825daf5d917b0701d0080b2d5b6292a11b71817d4ac", func := "loop.example/g00251/laws.FnUpside", spec := "fnUpside", unfollowed := true, recurses := true, apart := false, narrowed := true }
def FnUpsideUptoSaid : Prop := fnUpsideUptoRow.holds Try.pinned (OpenSpec.upto fnUpsideSpec)

/-- 'laws.FnDivides', WHERE WHAT IT READS IS OF BULK AT MOST 1048576: true; the input reads as it did. -/
def fnDividesUptoRow : OpenClaim := { program := "yteakklodmdafbaa", sum := "13fc8ce2f842f9342efee825daf5d917b0701d0080b2d5b6292a11b71817d4ac", func := "loop.example/g00251/laws.FnDivides", spec := "fnDivides", unfollowed := true, recurses := true, apart := false, narrowed := true }
def FnDividesUptoSaid : Prop := fnDividesUptoRow.holds Try.pinned (OpenSpec.upto fnDividesSpec)

/-- 'laws.FnExactSignedOf', WHERE WHAT IT READS IS OF BULK AT MOST 1048576: true; the input reads as it did. -/
def fnExactSignedOfUptoRow : OpenClaim := { program := "yteakklodmdafbaa", sum := "13fc8ce2f842f9342efee825daf5d917b0701d0080b2d5b6292a11b71817d4ac", func := "loop.example/g00251/laws.FnExactSignedOf", spec := "fnExactSignedOf", apart := false, narrowed := true }
def FnExactSignedOfUptoSaid : Prop := fnExactSignedOfUptoRow.holds Try.pinned (OpenSpec.upto fnExactSignedOfSpec)

/-- 'laws.FnExactWordOf', WHERE WHAT IT READS IS OF BULK AT MOST 1048576: true; the input reads as it did. -/
def fnExactWordOfUptoRow : OpenClaim := { program := "yteakklodmdafbaa", sum := "13fc8ce2f842f9342efee825daf5d917b0701d0080b2d5b6292a11b71817d4ac", func := "loop.example/g00251/laws.FnExactWordOf", spec := "fnExactWordOf", apart := false, narrowed := true }
def FnExactWordOfUptoSaid : Prop := fnExactWordOfUptoRow.holds Try.pinned (OpenSpec.upto fnExactWordOfSpec)

/-- 'laws.FnExactComplement', WHERE WHAT IT READS IS OF BULK AT MOST 1048576: true; the input reads as it did. -/
def fnExactComplementUptoRow : OpenClaim := { program := "yteakklodmdafbaa", sum := "13fc8ce2f842f9342efee825daf5d917b0701d0080b2d5b6292a11b71817d4ac", func := "loop.example/g00251/laws.FnExactComplement", spec := "fnExactComplement", apart := false, narrowed := true }
def FnExactComplementUptoSaid : Prop := fnExactComplementUptoRow.holds Try.pinned (OpenSpec.upto fnExactComplementSpec)

/-- 'laws.FnExactBinaryOf', WHERE WHAT IT READS IS OF BULK AT MOST 1048576: true; the input reads as it did. -/
def fnExactBinaryOfUptoRow : OpenClaim := { program := "yteakklodmdafbaa", sum := "13fc8ce2f842f9342efee825daf5d917b0701d0080b2d5b6292a11b71817d4ac", func := "loop.example/g00251/laws.FnExactBinaryOf", spec := "fnExactBinaryOf", unfollowed := true, recurses := true, apart := false, narrowed := true }
def FnExactBinaryOfUptoSaid : Prop := fnExactBinaryOfUptoRow.holds Try.pinned (OpenSpec.upto fnExactBinaryOfSpec)

/-- 'laws.FnExactNegOf', WHERE WHAT IT READS IS OF BULK AT MOST 1048576: true; the input reads as it did. -/
def fnExactNegOfUptoRow : OpenClaim := { program := "yteakklodmdafbaa", sum := "13fc8ce2f842f9342efee825daf5d917b0701d0080b2d5b6292a11b71817d4ac", func := "loop.example/g00251/laws.FnExactNegOf", spec := "fnExactNegOf", apart := false, narrowed := true }
def FnExactNegOfUptoSaid : Prop := fnExactNegOfUptoRow.holds Try.pinned (OpenSpec.upto fnExactNegOfSpec)

/-- 'laws.FnExactNotOf', WHERE WHAT IT READS IS OF BULK AT MOST 1048576: true; the input reads as it did. -/
def fnExactNotOfUptoRow : OpenClaim := { program := "yteakklodmdafbaa", sum := "13fc8ce2f842f9342efee825daf5d917b0701d0080b2d5b6292a11b71817d4ac", func := "loop.example/g00251/laws.FnExactNotOf", spec := "fnExactNotOf", apart := false, narrowed := true }
def FnExactNotOfUptoSaid : Prop := fnExactNotOfUptoRow.holds Try.pinned (OpenSpec.upto fnExactNotOfSpec)

/-- 'laws.FnExactBinaryInv', WHERE WHAT IT READS IS OF BULK AT MOST 1048576: true; the input reads as it did. -/
def fnExactBinaryInvUptoRow : OpenClaim := { program := "yteakklodmdafbaa", sum := "13fc8ce2f842f9342efee825daf5d917b0701d0080b2d5b6292a11b71817d4ac", func := "loop.example/g00251/laws.FnExactBinaryInv", spec := "fnExactBinaryInv", unfollowed := true, recurses := true, apart := false, narrowed := true }
def FnExactBinaryInvUptoSaid : Prop := fnExactBinaryInvUptoRow.holds Try.pinned (OpenSpec.upto fnExactBinaryInvSpec)

end Rows
end Go.Proofs.Yteakklodmdafbaa
