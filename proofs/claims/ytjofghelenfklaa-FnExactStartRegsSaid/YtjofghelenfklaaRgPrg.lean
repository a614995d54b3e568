/-
  impl's regProgress.
-/
import Derived.Test.YtjofghelenfklaaIPrg
import Derived.Test.YtjofghelenfklaaRgM
namespace Go.Proofs.Ytjofghelenfklaa
open Go.RowKit
set_option linter.unusedVariables false

set_option maxHeartbeats 1600000 in
theorem rprog_any (m : SM) (a1 a2 : Option Addr) (n1 n2 k1 k2 : Nat) (w : World) :
    Calls Try.prog 76 #[machW m (.slice a1 n1 k1) (.slice a2 n2 k2)] w fun e w' => e = .returned (progV m) ∧ Below w.heap.size w w' := by
  go_enter Try.func76, Try.ntmps76
  go_wp2_with fail
  refine bodyPost_ret (v := progV m) (by simp [results, Try.results76, go_sem]) rfl ⟨rfl, ?_⟩
  go_grown
end Go.Proofs.Ytjofghelenfklaa
