/-
  How a machine of the stack that comes in is read.
-/
import Derived.Test.YtjofghelenfklaaStkMem
import Derived.Lib.SmallJoins
import Derived.Deep.Slices
import Derived.ChangeOld
import Derived.ShutString
namespace Go.Proofs.Ytjofghelenfklaa
open Go.RowKit Go.ChangeShapes Go.WideShapes Go.Deep Go.Lib Go.Joins
set_option linter.unusedVariables false

/-- a machine that comes in -/
structure IsMach (w : World) (sv cv : Value) (m : SM) : Prop where
  s : RowV w sv m.stk
  c : RowV w cv m.cells
  sl : m.stk.length ≤ 9223372036854775807
  cl : m.cells.length ≤ 9223372036854775807
theorem cellsMach : Try.prog.cellsOf 67 = 7 := by kernel_rfl
theorem cellsIntM : Try.prog.cellsOf 2 = 1 := by kernel_rfl
theorem cellsIntsM : Try.prog.cellsOf 24 = 1 := by kernel_rfl
theorem cellsBoolM : Try.prog.cellsOf 4 = 1 := by kernel_rfl
theorem list7 {α : Type} {cs : List α} (h : cs.length = 7) : ∃ c0 c1 c2 c3 c4 c5 c6, cs = [c0, c1, c2, c3, c4, c5, c6] := by
  match cs, h with
  | [c0, c1, c2, c3, c4, c5, c6], _ => exact ⟨c0, c1, c2, c3, c4, c5, c6, rfl⟩
section
variable {H : Type} {enc : TypeId × Value → H} {W : World}
theorem trod_struct7 {P : Program} {w : World} {base : Nat} {spare : Nat → Bool} {held : Bool} {t : TypeId} {f0 f1 f2 f3 f4 f5 f6 : Field} {fuel : Nat} {cs : List Value} {x : DataW H × List MemPlace} (ht : P.underlying t = some (.struct #[f0, f1, f2, f3, f4, f5, f6])) (h : DataW.trod enc P w base spare held fuel t cs = some x) :
    ∃ y0 y1 y2 y3 y4 y5 y6 n, cs.length = P.cellsOf t ∧ DataW.trod enc P w base spare held n f0.type ((cs.drop f0.offset).take (P.cellsOf f0.type)) = some y0 ∧
      DataW.trod enc P w base spare held n f1.type ((cs.drop f1.offset).take (P.cellsOf f1.type)) = some y1 ∧ DataW.trod enc P w base spare held n f2.type ((cs.drop f2.offset).take (P.cellsOf f2.type)) = some y2 ∧
      DataW.trod enc P w base spare held n f3.type ((cs.drop f3.offset).take (P.cellsOf f3.type)) = some y3 ∧ DataW.trod enc P w base spare held n f4.type ((cs.drop f4.offset).take (P.cellsOf f4.type)) = some y4 ∧
      DataW.trod enc P w base spare held n f5.type ((cs.drop f5.offset).take (P.cellsOf f5.type)) = some y5 ∧ DataW.trod enc P w base spare held n f6.type ((cs.drop f6.offset).take (P.cellsOf f6.type)) = some y6 := by
  obtain ⟨xs, n, _, rfl, hl, hlen, hf⟩ := DataW.trod_struct ht h
  match xs, hlen with
  | [y0, y1, y2, y3, y4, y5, y6], _ => exact ⟨y0, y1, y2, y3, y4, y5, y6, n, hl, by simpa using hf 0 f0 rfl, by simpa using hf 1 f1 rfl, by simpa using hf 2 f2 rfl, by simpa using hf 3 f3 rfl, by simpa using hf 4 f4 rfl, by simpa using hf 5 f5 rfl, by simpa using hf 6 f6 rfl⟩
theorem open_rowV {fuel : Nat} {v : Value} {y : DataW H × List MemPlace} (h : DataW.trod enc Try.prog W 0 (fun _ => true) true fuel 24 [v] = some y) : ∃ xs, RowV W v xs ∧ xs.length ≤ 9223372036854775807 := by
  rcases open_ints Try.underlying24 Try.underlying2 (by kernel_rfl) h with ⟨hcs, _⟩ | ⟨a, len, cap, zs, hcs, _, hl, hm, hz, _, hcell, _⟩
  · simp at hcs
    subst hcs
    exact ⟨[], ⟨none, 0, rfl, .inl rfl, fun _ => rfl⟩, by simp⟩
  · simp at hcs
    subst hcs
    have hz : zs.length = cap := by simpa using hz
    have hlen : (zs.take len).length = len := by simp; omega
    have hr : RowV W (.slice (some a) len cap) (zs.take len) := by
      refine ⟨some a, cap, by rw [hlen], ?_, by intro h; cases h⟩
      by_cases h0 : len = 0
      · subst h0; exact .inl (by simp)
      obtain ⟨b, off, spot⟩ := a
      have hc := hcell 0 (by omega)
      have hspot : spot = none := by simpa [Addr.add] using World.cell?_spot hc
      subst hspot
      refine .inr ⟨b, off, rfl, fun i hi => ?_⟩
      have hi2 : i < len := by omega
      have h1 := hcell i (by omega)
      rw [Addr.add_lit] at h1
      rw [h1, List.getD_eq_getElem?_getD, List.getD_eq_getElem?_getD, List.getElem?_take, if_pos hi2]
    exact ⟨_, hr, by unfold maxLen at hm; omega⟩
set_option maxRecDepth 100000 in
theorem open_mach {base : Nat} {v : Value} {d : DataW H} {p : List MemPlace} (hv : Value.okWide Try.prog W .any base 67 v) (h : DataW.Trod enc Try.prog W 0 (fun _ => true) true 67 v d p) :
    ∃ (sv cv : Value) (m : SM), v = .agg #[.int .i64 m.pc, sv, cv, .int .i64 m.sig, .int .i64 m.used, .int .i64 m.trap, .bool m.done] ∧ IsMach W sv cv m := by
  obtain ⟨cs, rfl, hsz⟩ := okWide_struct Try.underlying67 hv
  obtain ⟨l⟩ := cs
  obtain ⟨c0, c1, c2, c3, c4, c5, c6, rfl⟩ := list7 (by simpa using hsz.trans cellsMach)
  obtain ⟨fuel, hf⟩ := h
  obtain ⟨y0, y1, y2, y3, y4, y5, y6, n, _, h0, h1, h2, h3, h4, h5, h6⟩ := trod_struct7 Try.underlying67 hf
  replace h0 : DataW.trod enc Try.prog W 0 (fun _ => true) true n 2 [c0] = some y0 := by simpa [Value.cells, cellsIntM] using h0
  replace h1 : DataW.trod enc Try.prog W 0 (fun _ => true) true n 24 [c1] = some y1 := by simpa [Value.cells, cellsIntsM] using h1
  replace h2 : DataW.trod enc Try.prog W 0 (fun _ => true) true n 24 [c2] = some y2 := by simpa [Value.cells, cellsIntsM] using h2
  replace h3 : DataW.trod enc Try.prog W 0 (fun _ => true) true n 2 [c3] = some y3 := by simpa [Value.cells, cellsIntM] using h3
  replace h4 : DataW.trod enc Try.prog W 0 (fun _ => true) true n 2 [c4] = some y4 := by simpa [Value.cells, cellsIntM] using h4
  replace h5 : DataW.trod enc Try.prog W 0 (fun _ => true) true n 2 [c5] = some y5 := by simpa [Value.cells, cellsIntM] using h5
  replace h6 : DataW.trod enc Try.prog W 0 (fun _ => true) true n 4 [c6] = some y6 := by simpa [Value.cells, cellsBoolM] using h6
  obtain ⟨k0, e0, _, _⟩ := DataW.trod_int Try.underlying2 h0
  obtain ⟨k3, e3, _, _⟩ := DataW.trod_int Try.underlying2 h3
  obtain ⟨k4, e4, _, _⟩ := DataW.trod_int Try.underlying2 h4
  obtain ⟨k5, e5, _, _⟩ := DataW.trod_int Try.underlying2 h5
  obtain ⟨k6, e6, _⟩ := DataW.trod_bool Try.underlying4 h6
  obtain ⟨s, hs, ls⟩ := open_rowV h1
  obtain ⟨c, hc, lc⟩ := open_rowV h2
  simp at e0 e3 e4 e5 e6
  subst e0 e3 e4 e5 e6
  exact ⟨c1, c2, ⟨k0, s, c, k3, k4, k5, k6⟩, rfl, hs, hc, ls, lc⟩
end
end Go.Proofs.Ytjofghelenfklaa
