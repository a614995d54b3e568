/-
  The Go function laws.FnExactDepthOf answers true at every input and writes nothing that was there. No condition.
-/
import Derived.Test.YtbgnmocbpigpmaaDepthBoth
namespace Go.Proofs.Ytbgnmocbpigpmaa
open Go.RowKit
set_option linter.unusedVariables false
theorem fnExactDepthOf_walk (vv0 vn0 vb0 : Value) (T0 : LTree) (a1 : Int) (w : World) (w0 : IsTree w vv0 vn0 vb0 T0) (w1 : (Lit.int .i64 a1).wf = true) :
    Calls Try.prog 9 #[treeV vv0 vn0 vb0, .int .i64 a1] w fun e w' => e = .returned (.bool true) ∧ Below w.heap.size w w' :=
  depthOf_law depC depV specDepthOf implDepthOf vv0 vn0 vb0 T0 a1 w w0
end Go.Proofs.Ytbgnmocbpigpmaa
