/-
  An IntsResult in its block.
-/
import Derived.Test.YtjofghelenfklaaCopy
import Derived.Laws.Rows
namespace Go.Proofs.Ytjofghelenfklaa
open Go.RowKit

/-- an IntsResult that lies in block p -/
def Var (W : World) (p : Nat) (c : Int) (v : Value) : Prop := W.heap[p]? = some (.cells #[.int .i64 c, v] 34 (0, 0))
theorem Var.lt {W : World} {p : Nat} {c : Int} {v : Value} (h : Var W p c v) : p < W.heap.size := (Array.getElem?_eq_some_iff.1 h).1
theorem Var.below {W W' : World} {p : Nat} {c : Int} {v : Value} (h : Var W p c v) (hb : Below W.heap.size W W') : Var W' p c v := by
  unfold Var; rw [hb.block p h.lt]; exact h
theorem Var.cells {W : World} {p : Nat} {c : Int} {v : Value} (h : Var W p c v) : W.cell? ⟨p, 0, none⟩ = some (.int .i64 c) ∧ W.cell? ⟨p, 1, none⟩ = some v :=
  ⟨cell_of_row W p 0 _ _ _ h, cell_of_row W p 1 _ _ _ h⟩
theorem Var.new (W : World) (c : Int) (v : Value) : Var (W.alloc (.cells #[.int .i64 c, v] 34)) W.heap.size c v := heap_alloc_new _ _
end Go.Proofs.Ytjofghelenfklaa
