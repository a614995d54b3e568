/-
  A machine by value that a call made.
-/
import Derived.Test.YtjofghelenfklaaSStk1
import Derived.Test.YtjofghelenfklaaStkSole
namespace Go.Proofs.Ytjofghelenfklaa
open Go.RowKit
set_option linter.unusedVariables false

/-- a machine by value that a call made, in blocks from B on -/
def MachR (B : Nat) (w w' : World) (e : Ending) (m : SM) : Prop := ∃ sv cv, e = .returned (machVs m sv cv) ∧ Own w' B sv m.stk ∧ Own w' B cv m.cells ∧ (∀ g, sv.ownBlock = some g → cv.ownBlock ≠ some g) ∧ Below w.heap.size w w'
abbrev zeroLine : Array Value := #[.int .i64 0, .slice none 0 0, .slice none 0 0, .int .i64 0, .int .i64 0, .int .i64 0, .bool false]

/-- the result's block filled with a machine -/
theorem fill7 (r : Nat) (W : World) (m : SM) (sv cv : Value) : Sole1 r W (((((((W.setCell ⟨r, 0, none⟩ (.int .i64 m.pc)).setCell ⟨r, 1, none⟩ sv).setCell ⟨r, 2, none⟩ cv).setCell ⟨r, 3, none⟩ (.int .i64 m.sig)).setCell ⟨r, 4, none⟩ (.int .i64 m.used)).setCell ⟨r, 5, none⟩ (.int .i64 m.trap)).setCell ⟨r, 6, none⟩ (.bool m.done)) :=
  (((((((Sole1.refl r W).set 0 (.int .i64 m.pc)).set 1 sv).set 2 cv).set 3 (.int .i64 m.sig)).set 4 (.int .i64 m.used)).set 5 (.int .i64 m.trap)).set 6 (.bool m.done)
end Go.Proofs.Ytjofghelenfklaa
