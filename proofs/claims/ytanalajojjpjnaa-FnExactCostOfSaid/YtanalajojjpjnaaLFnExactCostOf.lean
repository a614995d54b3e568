/-
  The Go function laws.FnExactCostOf answers true at every input and writes nothing that was there. No condition.
-/
import Derived.Test.YtanalajojjpjnaaCostBoth
import Derived.Test.YtanalajojjpjnaaLawCost
namespace Go.Proofs.Ytanalajojjpjnaa
open Go.RowKit
set_option linter.unusedVariables false
theorem fnExactCostOf_walk (vv0 vn0 vb0 : Value) (T0 : LTree) (a1 : Int) (w : World) (w0 : IsTree w vv0 vn0 vb0 T0) (w1 : (Lit.int .i64 a1).wf = true) :
    Calls Try.prog 3 #[treeV vv0 vn0 vb0, .int .i64 a1] w fun e w' => e = .returned (.bool true) ∧ Below w.heap.size w w' :=
  costOf_law cosC cosV specCostOf implCostOf vv0 vn0 vb0 T0 a1 w w0
end Go.Proofs.Ytanalajojjpjnaa
