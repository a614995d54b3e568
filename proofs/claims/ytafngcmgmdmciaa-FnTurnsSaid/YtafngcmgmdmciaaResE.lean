/-
  An IntResult by value; two equal ones are found equal.
-/
import Derived.Test.YtafngcmgmdmciaaBase
namespace Go.Proofs.Ytafngcmgmdmciaa
open Go.RowKit

/-- an IntResult -/
abbrev res (c v : Int) : Value := .agg #[.int .i64 c, .int .i64 v]

set_option maxHeartbeats 400000 in
theorem eqRes_any (a b : Int) (w : World) :
    Calls Try.prog 34 #[res a b, res a b] w fun e w' => e = .returned (.bool true) ∧ Below w.heap.size w w' := by
  go_enter Try.func34, Try.ntmps34
  go_wp2
  go_ret
  exact ⟨rfl, by go_grown⟩
end Go.Proofs.Ytafngcmgmdmciaa
