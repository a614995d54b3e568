/-
  The Go function laws.FnExactHasCalls answers true at every input and writes nothing that was there. No condition.
-/
import Derived.Test.YtbgnmocbpigpmaaIHasCalls
import Derived.Test.YtbgnmocbpigpmaaLawHas
namespace Go.Proofs.Ytbgnmocbpigpmaa
open Go.RowKit
set_option linter.unusedVariables false
theorem fnExactHasCalls_walk (vv0 vn0 vb0 : Value) (T0 : LTree) (w : World) (w0 : IsTree w vv0 vn0 vb0 T0) :
    Calls Try.prog 10 #[treeV vv0 vn0 vb0] w fun e w' => e = .returned (.bool true) ∧ Below w.heap.size w w' :=
  hasCalls_law hasB specHasCalls implHasCalls vv0 vn0 vb0 T0 w w0
end Go.Proofs.Ytbgnmocbpigpmaa
