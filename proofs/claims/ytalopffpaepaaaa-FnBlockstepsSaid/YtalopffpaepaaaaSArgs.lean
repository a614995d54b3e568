/-
  spec.l5Args.
-/
import Derived.Test.YtalopffpaepaaaaBlkOwn
import Derived.Test.YtalopffpaepaaaaBase
namespace Go.Proofs.Ytalopffpaepaaaa
open Go.RowKit
set_option linter.unusedVariables false
attribute [local go_sem] bs_size bs_get bs_extract bs_append bs_eq bs_toList


/-- a row of numbers that a call made -/
def IntsR (lo : Nat) (w' : World) (e : Ending) (zs : List Int) : Prop := ∃ g, e = .returned (.slice (some ⟨g, 0, none⟩) zs.length zs.length) ∧ lo ≤ g ∧ w'.heap[g]? = some (.cells (zs.map (Value.int .i64)).toArray 2 (0, 0))

set_option maxHeartbeats 800000 in
theorem l5Args_any (op : Int) (w : World) (h1 : 1 ≤ op) (h4 : op ≤ 4) : Calls Try.prog 37 #[.int .i64 op] w fun e w' => IntsR w.heap.size w' e (argsL op) ∧ Below w.heap.size w w' := by
  have h : op = 1 ∨ op = 2 ∨ op = 3 ∨ op = 4 := by omega
  rcases h with rfl | rfl | rfl | rfl
  all_goals
    go_enter Try.func37, Try.ntmps37
    go_wp2
    go_ret
    exact ⟨⟨w.heap.size, rfl, Nat.le_refl _, heap_alloc_new w _⟩, by go_grown⟩
end Go.Proofs.Ytalopffpaepaaaa
