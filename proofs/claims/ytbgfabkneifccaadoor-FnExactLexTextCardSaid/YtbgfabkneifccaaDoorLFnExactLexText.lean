/-
  The Go function laws.FnExactLexText answers true at every input and writes nothing that was there; where the variables strconv.ErrSyntax, ErrRange hold a value.
-/
import Derived.Test.YtbgfabkneifccaaDoorLexLaw
import Derived.Test.YtbgfabkneifccaaDoorILexT
namespace Go.Proofs.YtbgfabkneifccaaDoor
open Go.RowKit
set_option linter.unusedVariables false
theorem fnExactLexText_walk (a0 : ByteArray) (w : World) (w0 : a0.size ≤ maxLen) (hE : Errs w) :
    Calls Tryd.prog 4 #[.string a0] w fun e w' => e = .returned (.bool true) ∧ Below w.heap.size w w' :=
  lexLaw (fun l w hl h => implLex_any l w hl h) a0 w hE
end Go.Proofs.YtbgfabkneifccaaDoor
