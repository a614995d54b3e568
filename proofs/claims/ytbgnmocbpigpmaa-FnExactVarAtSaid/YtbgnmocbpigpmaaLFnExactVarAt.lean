/-
  The Go function laws.FnExactVarAt answers true at every input and writes nothing that was there. No condition.
-/
import Derived.Test.YtbgnmocbpigpmaaVarBoth
namespace Go.Proofs.Ytbgnmocbpigpmaa
open Go.RowKit
set_option linter.unusedVariables false
attribute [local go_sem] bs_size bs_get bs_extract bs_append bs_eq bs_toList

set_option maxHeartbeats 1600000 in
theorem fnExactVarAt_walk (vv0 vn0 vb0 : Value) (T0 : LTree) (a1 : ByteArray) (w : World) (w0 : IsTree w vv0 vn0 vb0 T0) (w1 : a1.size ≤ maxLen) :
    Calls Try.prog 8 #[treeV vv0 vn0 vb0, .string a1] w fun e w' => e = .returned (.bool true) ∧ Below w.heap.size w w' := by
  obtain ⟨l, rfl⟩ : ∃ l, a1 = bs l := ⟨_, bs_of a1⟩
  by_cases hbig : 1048576 < l.length
  · have hbb : decide ((1048576 : Int) < (l.length : Int)) = true := decide_eq_true (by omega)
    obtain ⟨ht, _⟩ := w0
    obtain ⟨av, cv, rfl, _⟩ := id ht.vars
    obtain ⟨an, cn, rfl, _⟩ := id ht.nodes
    obtain ⟨ab, cb, rfl, _⟩ := id ht.body
    clear hbig w1 ht
    go_enter Try.func8, Try.ntmps8
    go_wp2
    go_ret
    exact ⟨rfl, by go_grown⟩
  · exact varAt_law vatC vatV specVarAt implVarAt vv0 vn0 vb0 T0 l w w0 (by omega)
end Go.Proofs.Ytbgnmocbpigpmaa
