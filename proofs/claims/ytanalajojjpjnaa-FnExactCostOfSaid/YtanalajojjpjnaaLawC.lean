/-
  What the laws of functions of a tree that answer a code and a value share.
-/
import Derived.Test.YtanalajojjpjnaaTreeC
namespace Go.Proofs.Ytanalajojjpjnaa
open Go.RowKit
set_option linter.unusedVariables false
attribute [local go_sem] bs_size bs_get bs_extract bs_append bs_eq bs_toList

set_option maxHeartbeats 800000 in
theorem eqIntRes_any (a b : Int) (w : World) : Calls Try.prog 11 #[.agg #[.int .i64 a, .int .i64 b], .agg #[.int .i64 a, .int .i64 b]] w fun e w' => e = .returned (.bool true) ∧ Below w.heap.size w w' := by
  go_enter Try.func11, Try.ntmps11
  go_wp2
  go_ret
  exact ⟨rfl, by go_grown⟩
/-- a function of a tree and a number that answers a code and a value -/
def TreeAt (f : FuncId) (C V : LTree → Int → Int) : Prop := ∀ (lo : Nat) (vv vn vb : Value) (T : LTree) (k : Int) (w : World), TreeV lo w vv vn vb T → Sized 1048576 T →
  Calls Try.prog f #[treeV vv vn vb, .int .i64 k] w fun e w' => e = .returned (.agg #[.int .i64 (C T k), .int .i64 (V T k)]) ∧ Below w.heap.size w w'
/-- a function of a tree and a text that answers a code and a value -/
def TreeNamed (f : FuncId) (C V : LTree → List UInt8 → Int) : Prop := ∀ (lo : Nat) (vv vn vb : Value) (T : LTree) (nm : List UInt8) (w : World), TreeV lo w vv vn vb T → Sized 1048576 T → nm.length ≤ 1048576 →
  Calls Try.prog f #[treeV vv vn vb, .string (bs nm)] w fun e w' => e = .returned (.agg #[.int .i64 (C T nm), .int .i64 (V T nm)]) ∧ Below w.heap.size w w'

end Go.Proofs.Ytanalajojjpjnaa
