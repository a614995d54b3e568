/-
  How a machine of the stack that comes in is read.
-/
import Derived.Test.YtjofghelenfklaaRgMem
import Derived.Lib.SmallJoins
import Derived.Deep.Slices
import Derived.ChangeOld
import Derived.ShutString
import Derived.Test.YtjofghelenfklaaOpenStk
namespace Go.Proofs.Ytjofghelenfklaa
open Go.RowKit Go.ChangeShapes Go.WideShapes Go.Deep Go.Lib Go.Joins
set_option linter.unusedVariables false

theorem cellsMachG : Try.prog.cellsOf 47 = 7 := by kernel_rfl
section
variable {H : Type} {enc : TypeId × Value → H} {W : World}
set_option maxRecDepth 100000 in
theorem open_machG {base : Nat} {v : Value} {d : DataW H} {p : List MemPlace} (hv : Value.okWide Try.prog W .any base 47 v) (h : DataW.Trod enc Try.prog W 0 (fun _ => true) true 47 v d p) :
    ∃ (sv cv : Value) (m : SM), v = .agg #[.int .i64 m.pc, sv, cv, .int .i64 m.sig, .int .i64 m.used, .int .i64 m.trap, .bool m.done] ∧ IsMach W sv cv m := by
  obtain ⟨cs, rfl, hsz⟩ := okWide_struct Try.underlying47 hv
  obtain ⟨l⟩ := cs
  obtain ⟨c0, c1, c2, c3, c4, c5, c6, rfl⟩ := list7 (by simpa using hsz.trans cellsMachG)
  obtain ⟨fuel, hf⟩ := h
  obtain ⟨y0, y1, y2, y3, y4, y5, y6, n, _, h0, h1, h2, h3, h4, h5, h6⟩ := trod_struct7 Try.underlying47 hf
  replace h0 : DataW.trod enc Try.prog W 0 (fun _ => true) true n 2 [c0] = some y0 := by simpa [Value.cells, cellsIntM] using h0
  replace h1 : DataW.trod enc Try.prog W 0 (fun _ => true) true n 24 [c1] = some y1 := by simpa [Value.cells, cellsIntsM] using h1
  replace h2 : DataW.trod enc Try.prog W 0 (fun _ => true) true n 24 [c2] = some y2 := by simpa [Value.cells, cellsIntsM] using h2
  replace h3 : DataW.trod enc Try.prog W 0 (fun _ => true) true n 2 [c3] = some y3 := by simpa [Value.cells, cellsIntM] using h3
  replace h4 : DataW.trod enc Try.prog W 0 (fun _ => true) true n 2 [c4] = some y4 := by simpa [Value.cells, cellsIntM] using h4
  replace h5 : DataW.trod enc Try.prog W 0 (fun _ => true) true n 2 [c5] = some y5 := by simpa [Value.cells, cellsIntM] using h5
  replace h6 : DataW.trod enc Try.prog W 0 (fun _ => true) true n 4 [c6] = some y6 := by simpa [Value.cells, cellsBoolM] using h6
  obtain ⟨k0, e0, _, _⟩ := DataW.trod_int Try.underlying2 h0
  obtain ⟨k3, e3, _, _⟩ := DataW.trod_int Try.underlying2 h3
  obtain ⟨k4, e4, _, _⟩ := DataW.trod_int Try.underlying2 h4
  obtain ⟨k5, e5, _, _⟩ := DataW.trod_int Try.underlying2 h5
  obtain ⟨k6, e6, _⟩ := DataW.trod_bool Try.underlying4 h6
  obtain ⟨s, hs, ls⟩ := open_rowV h1
  obtain ⟨c, hc, lc⟩ := open_rowV h2
  simp at e0 e3 e4 e5 e6
  subst e0 e3 e4 e5 e6
  exact ⟨c1, c2, ⟨k0, s, c, k3, k4, k5, k6⟩, rfl, hs, hc, ls, lc⟩
end
end Go.Proofs.Ytjofghelenfklaa
