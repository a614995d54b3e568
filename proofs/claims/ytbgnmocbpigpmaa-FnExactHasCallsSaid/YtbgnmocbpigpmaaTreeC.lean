/-
  What a law's walk wants of a function of a tree that answers a number.
-/
import Derived.Test.YtbgnmocbpigpmaaOpenTree
import Derived.Test.YtbgnmocbpigpmaaTreeEq2
namespace Go.Proofs.Ytbgnmocbpigpmaa
open Go.RowKit
set_option linter.unusedVariables false

/-- a function of a tree that answers a number -/
def TreeInt (f : FuncId) (F : LTree → Int) : Prop := ∀ (lo : Nat) (vv vn vb : Value) (T : LTree) (w : World), TreeV lo w vv vn vb T → Sized 1048576 T →
  Calls Try.prog f #[treeV vv vn vb] w fun e w' => e = .returned (.int .i64 (F T)) ∧ Below w.heap.size w w'
end Go.Proofs.Ytbgnmocbpigpmaa
