/-
  The Go function laws.FnExactBinaryOf answers true at every input and writes nothing that was there. No condition.
-/
import Derived.Test.YteakklodmdafbaaInv
namespace Go.Proofs.Yteakklodmdafbaa
open Go.RowKit
set_option linter.unusedVariables false

set_option maxHeartbeats 400000 in
theorem fnExactBinaryOf_walk (a0 : Int) (a1 : Int) (a2 : Int) (w : World) (w0 : (Lit.int .i64 a0).wf = true) (w1 : (Lit.int .i64 a1).wf = true) (w2 : (Lit.int .i64 a2).wf = true) :
    Calls Try.prog 8 #[.int .i64 a0, .int .i64 a1, .int .i64 a2] w fun e w' => e = .returned (.bool true) ∧ Below w.heap.size w w' := by
  clear w0 w1 w2
  go_enter Try.func8, Try.ntmps8
  go_wp2_with fail
  refine (specBin_any _ _ _ _).mono ?_
  rintro e w1 ⟨rfl, hb1⟩
  go_wp2_with fail
  refine (implBin_any _ _ _ _).mono ?_
  rintro e w2 ⟨rfl, hb2⟩
  obtain ⟨hc0, hc1, hf0, hf1, hz⟩ := own2 hb2
  have hB2 : Below w.heap.size w w2 := hb1.trans ((back hb2).mono hb1.size)
  clear hb1 hb2
  go_wp2_with fail
  refine (eqRes_any _ _ _).mono ?_
  rintro e w3 ⟨rfl, hb3⟩
  have hB3 : Below w.heap.size w w3 := hB2.trans ((back hb3).mono hB2.size)
  clear hb3
  go_wp2
  go_ret
  exact ⟨rfl, hB3⟩
end Go.Proofs.Yteakklodmdafbaa
