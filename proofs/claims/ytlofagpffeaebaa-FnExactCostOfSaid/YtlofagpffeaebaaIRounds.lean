/-
  impl.roundsOf: how often a loop goes round.
-/
import Derived.Test.YtlofagpffeaebaaISum
import Derived.Test.YtlofagpffeaebaaIDeep
import Derived.Deep.Cut
namespace Go.Proofs.Ytlofagpffeaebaa
open Go.RowKit
set_option linter.unusedVariables false

theorem max2 (x y : Int) (W : World) : (Builtin.max_ #[2, 2] 2 #[.int .i64 x, .int .i64 y]).run Try.prog W = .ok (.int .i64 (max x y)) W := by
  have e1 : (if y > x then y else x) = max x y := by split <;> omega
  show (([Value.int .i64 y].foldlM Builtin.max2 (.int .i64 x) : Sem Value)).run Try.prog W = _
  simp only [List.foldlM_cons, List.foldlM_nil, Builtin.max2, Sem.run_bind, Sem.run_pure, Result.andThen_ok, e1]

set_option maxHeartbeats 800000 in
theorem roundsOf_any (x0 x1 x2 x5 x6 x7 : Value) (num far : Int) (hf : -1 ≤ far ∧ far ≤ 65535) (hn : -1 ≤ num ∧ num ≤ 65535) (w : World) :
    Calls Try.prog 69 #[.agg #[x0, x1, x2, .int .i64 num, .int .i64 far, x5, x6, x7]] w fun e w' => e = .returned (.int .i64 (max 0 (far - num + 1))) ∧ Below w.heap.size w w' := by
  have hA := heap_alloc_new w (.cells #[x0, x1, x2, .int .i64 num, .int .i64 far, x5, x6, x7] 99)
  have hB : Below w.heap.size w (w.alloc (.cells #[x0, x1, x2, .int .i64 num, .int .i64 far, x5, x6, x7] 99)) := (Below.refl _ _).alloc (Nat.le_refl _) _
  have hmx := max2 0 (far - num + 1)
  go_enter Try.func69, Try.ntmps69
  go_upto_region 1 with fail
  generalize w.alloc (.cells #[x0, x1, x2, .int .i64 num, .int .i64 far, x5, x6, x7] 99) = W at *
  obtain ⟨-, -, -, d3, d4⟩ := cl5 hA
  have HB := hid hB
  clear hA hB
  go_wp2_with fail
  go_ret
  exact ⟨rfl, HB.out⟩
end Go.Proofs.Ytlofagpffeaebaa
