/-
  The two blocks at the start of a function of a tree that answers a number beside a code.
-/
import Derived.Test.YtbgnmocbpigpmaaTreeC
namespace Go.Proofs.Ytbgnmocbpigpmaa
open Go.RowKit
set_option linter.unusedVariables false

theorem two_start (w : World) (vv vn vb : Value) (T1 T2 : TypeId) : let W := ((w.alloc (.cells #[vv, vn, vb] T1)).alloc (.cells #[.int .i64 0, .int .i64 0] T2))
    W.heap[w.heap.size]? = some (.cells #[vv, vn, vb] T1 (0, 0)) ∧ W.heap[w.heap.size + 1]? = some (.cells #[.int .i64 0, .int .i64 0] T2 (0, 0)) ∧ Below w.heap.size w W := by
  intro W
  have hA := heap_alloc_new w (.cells #[vv, vn, vb] T1)
  have hB : Below w.heap.size w (w.alloc (.cells #[vv, vn, vb] T1)) := (Below.refl _ _).alloc (Nat.le_refl _) _
  have hZ : (w.alloc (.cells #[vv, vn, vb] T1)).heap.size = w.heap.size + 1 := by simp
  have hA2 := heap_alloc_new (w.alloc (.cells #[vv, vn, vb] T1)) (.cells #[.int .i64 0, .int .i64 0] T2)
  have hB2 : Below (w.alloc (.cells #[vv, vn, vb] T1)).heap.size (w.alloc (.cells #[vv, vn, vb] T1)) W := (Below.refl _ _).alloc (Nat.le_refl _) _
  rw [hZ] at hA2
  exact ⟨blk hA hB2, hA2, hB.trans (hB2.mono (by omega))⟩
end Go.Proofs.Ytbgnmocbpigpmaa
