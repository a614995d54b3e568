/-
  The Go function laws.FnExactArgsOfRegs answers true at every input and writes nothing that was there. No condition.
-/
import Derived.Test.YtjofghelenfklaaRgArgs
import Derived.Test.YtjofghelenfklaaIRgOp
namespace Go.Proofs.Ytjofghelenfklaa
open Go.RowKit
set_option linter.unusedVariables false

set_option maxHeartbeats 400000 in
theorem eqIntResR_any (a b : Int) (w : World) : Calls Try.prog 45 #[.agg #[.int .i64 a, .int .i64 b], .agg #[.int .i64 a, .int .i64 b]] w fun e w' => e = .returned (.bool true) ∧ Below w.heap.size w w' := by
  go_enter Try.func45, Try.ntmps45
  go_wp2
  go_ret
  exact ⟨rfl, by go_grown⟩

set_option maxHeartbeats 400000 in
theorem fnExactArgsOfRegs_walk (a0 : Int) (w : World) (w0 : (Lit.int .i64 a0).wf = true) :
    Calls Try.prog 9 #[.int .i64 a0] w fun e w' => e = .returned (.bool true) ∧ Below w.heap.size w w' := by
  clear w0
  have HS : Hid (∀ W : World, Calls Try.prog 43 #[.int .i64 a0] W fun e w' => e = .returned (.agg #[.int .i64 (if inB a0 1 13 then 0 else 3), .int .i64 (if inB a0 1 13 then argR a0 else 0)]) ∧ Below W.heap.size W w') := specArgsR a0
  have HI : Hid (∀ W : World, Calls Try.prog 44 #[.int .i64 a0] W fun e w' => e = .returned (.agg #[.int .i64 (if inB a0 1 13 then 0 else 3), .int .i64 (if inB a0 1 13 then argR a0 else 0)]) ∧ Below W.heap.size W w') := implArgsR a0
  generalize (if inB a0 1 13 = true then (0 : Int) else 3) = x at *
  generalize (if inB a0 1 13 = true then argR a0 else (0 : Int)) = y at *
  go_enter Try.func9, Try.ntmps9
  go_wp2_with fail
  refine (HS.out _).mono ?_
  rintro e w1 ⟨rfl, hb1⟩
  go_wp2_with fail
  have hA := heap_alloc_new w1 (.cells #[.int .i64 x, .int .i64 y] 61)
  have hB : Below w.heap.size w (w1.alloc (.cells #[.int .i64 x, .int .i64 y] 61)) := hb1.alloc hb1.size _
  generalize w1.alloc (.cells #[.int .i64 x, .int .i64 y] 61) = W at *
  generalize w1.heap.size = g at *
  refine (HI.out _).mono ?_
  rintro e w2 ⟨rfl, hb2⟩
  have hA2 := (hb2.block g (Array.getElem?_eq_some_iff.1 hA).1).trans hA
  have hB2 : Below w.heap.size w w2 := hB.trans (hb2.mono hB.size)
  clear hA hB hb2
  have hB3 : Below w.heap.size w (w2.alloc (.cells #[.int .i64 x, .int .i64 y] 61)) := hB2.alloc hB2.size _
  have hA3 : (w2.alloc (.cells #[.int .i64 x, .int .i64 y] 61)).heap[g]? = _ := (((Below.refl w2.heap.size w2).alloc (Nat.le_refl _) _).block g (Array.getElem?_eq_some_iff.1 hA2).1).trans hA2
  have a0 := cell_of_row _ _ 0 _ _ _ hA3
  have a1 := cell_of_row _ _ 1 _ _ _ hA3
  have hN := heap_alloc_new w2 (.cells #[.int .i64 x, .int .i64 y] 61)
  have b0 := cell_of_row _ _ 0 _ _ _ hN
  have b1 := cell_of_row _ _ 1 _ _ _ hN
  simp at a0 a1 b0 b1
  clear hA2 hA3 hN
  go_wp2_with fail
  generalize w2.alloc (.cells #[.int .i64 x, .int .i64 y] 61) = W3 at *
  refine (eqIntResR_any _ _ _).mono ?_
  rintro e w3 ⟨rfl, hb3⟩
  have hB4 : Below w.heap.size w w3 := hB3.trans (hb3.mono hB3.size)
  go_wp2_with fail
  go_ret
  exact ⟨rfl, hB4⟩
end Go.Proofs.Ytjofghelenfklaa
