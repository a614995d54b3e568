/-
  How a build that comes in is read.
-/
import Derived.Test.YtpobajblngblfaaBldM
import Derived.Lib.SmallJoins
import Derived.Deep.Slices
import Derived.ChangeOld
import Derived.ShutString
namespace Go.Proofs.Ytpobajblngblfaa
open Go.RowKit Go.ChangeShapes Go.WideShapes Go.Deep Go.Lib Go.Joins
set_option linter.unusedVariables false

/-- a build that comes in -/
structure IsBld (w : World) (vp vo va vb vs vt : Value) (m : LBuild) : Prop where
  r : BldR w vp vo va vb vs vt m
  l : BldLe m 9223372036854775807
theorem cellsBuild : Try.prog.cellsOf 25 = 9 := by kernel_rfl
theorem cellsPortB : Try.prog.cellsOf 72 = 2 := by kernel_rfl
theorem cellsPortsB : Try.prog.cellsOf 22 = 1 := by kernel_rfl
theorem cellsIntB : Try.prog.cellsOf 2 = 1 := by kernel_rfl
theorem cellsIntsB : Try.prog.cellsOf 23 = 1 := by kernel_rfl
theorem cellsBoolB : Try.prog.cellsOf 4 = 1 := by kernel_rfl
theorem list9 {α : Type} {cs : List α} (h : cs.length = 9) : ∃ c0 c1 c2 c3 c4 c5 c6 c7 c8, cs = [c0, c1, c2, c3, c4, c5, c6, c7, c8] := by
  match cs, h with
  | [c0, c1, c2, c3, c4, c5, c6, c7, c8], _ => exact ⟨c0, c1, c2, c3, c4, c5, c6, c7, c8, rfl⟩
section
variable {H : Type} {enc : TypeId × Value → H} {W : World}
theorem add_noneB (b o i : Nat) : (⟨b, o, none⟩ : Addr).add i = ⟨b, o + i, none⟩ := by
  unfold Addr.add
  split
  · rename_i h; first | (subst h; rfl) | (have h := of_decide_eq_true h; subst h; rfl) | (have := eq_of_beq h; subst this; rfl)
  · rfl
theorem gatherB {α : Type} [Inhabited α] {P : Nat → α → Prop} {n : Nat} (h : ∀ i, i < n → ∃ x, P i x) : ∃ xs : List α, xs.length = n ∧ ∀ i x, xs[i]? = some x → P i x := by
  classical
  refine ⟨(List.range n).map fun i => if hi : i < n then Classical.choose (h i hi) else default, by simp, fun i x hx => ?_⟩
  have hi : i < n := by have := (List.getElem?_eq_some_iff.1 hx).1; simpa using this
  have hy : (Classical.choose (h i hi)) = x := by simpa [hi] using hx
  rw [← hy]
  exact Classical.choose_spec (h i hi)
theorem range2 {f : Nat → Option Value} {cs : List Value} (h : (List.range 2).mapM f = some cs) : ∃ c0 c1, cs = [c0, c1] ∧ f 0 = some c0 ∧ f 1 = some c1 := by
  rw [show List.range 2 = [0, 1] from rfl] at h
  cases h0 : f 0 <;> cases h1 : f 1 <;> simp [h0, h1] at h
  exact ⟨_, _, h.symm, rfl, rfl⟩
theorem trod_struct2B {P : Program} {w : World} {base : Nat} {spare : Nat → Bool} {held : Bool} {t : TypeId} {f0 f1 : Field} {fuel : Nat} {cs : List Value} {x : DataW H × List MemPlace} (ht : P.underlying t = some (.struct #[f0, f1])) (h : DataW.trod enc P w base spare held fuel t cs = some x) :
    ∃ y0 y1 n, cs.length = P.cellsOf t ∧ DataW.trod enc P w base spare held n f0.type ((cs.drop f0.offset).take (P.cellsOf f0.type)) = some y0 ∧ DataW.trod enc P w base spare held n f1.type ((cs.drop f1.offset).take (P.cellsOf f1.type)) = some y1 := by
  obtain ⟨xs, n, _, rfl, hl, hlen, hf⟩ := DataW.trod_struct ht h
  match xs, hlen with
  | [y0, y1], _ => exact ⟨y0, y1, n, hl, by simpa using hf 0 f0 rfl, by simpa using hf 1 f1 rfl⟩
theorem trod_struct9 {P : Program} {w : World} {base : Nat} {spare : Nat → Bool} {held : Bool} {t : TypeId} {f0 f1 f2 f3 f4 f5 f6 f7 f8 : Field} {fuel : Nat} {cs : List Value} {x : DataW H × List MemPlace} (ht : P.underlying t = some (.struct #[f0, f1, f2, f3, f4, f5, f6, f7, f8])) (h : DataW.trod enc P w base spare held fuel t cs = some x) :
    ∃ y0 y1 y2 y3 y4 y5 y6 y7 y8 n, cs.length = P.cellsOf t ∧ DataW.trod enc P w base spare held n f0.type ((cs.drop f0.offset).take (P.cellsOf f0.type)) = some y0 ∧
      DataW.trod enc P w base spare held n f1.type ((cs.drop f1.offset).take (P.cellsOf f1.type)) = some y1 ∧ DataW.trod enc P w base spare held n f2.type ((cs.drop f2.offset).take (P.cellsOf f2.type)) = some y2 ∧
      DataW.trod enc P w base spare held n f3.type ((cs.drop f3.offset).take (P.cellsOf f3.type)) = some y3 ∧ DataW.trod enc P w base spare held n f4.type ((cs.drop f4.offset).take (P.cellsOf f4.type)) = some y4 ∧
      DataW.trod enc P w base spare held n f5.type ((cs.drop f5.offset).take (P.cellsOf f5.type)) = some y5 ∧ DataW.trod enc P w base spare held n f6.type ((cs.drop f6.offset).take (P.cellsOf f6.type)) = some y6 ∧
      DataW.trod enc P w base spare held n f7.type ((cs.drop f7.offset).take (P.cellsOf f7.type)) = some y7 ∧ DataW.trod enc P w base spare held n f8.type ((cs.drop f8.offset).take (P.cellsOf f8.type)) = some y8 := by
  obtain ⟨xs, n, _, rfl, hl, hlen, hf⟩ := DataW.trod_struct ht h
  match xs, hlen with
  | [y0, y1, y2, y3, y4, y5, y6, y7, y8], _ => exact ⟨y0, y1, y2, y3, y4, y5, y6, y7, y8, n, hl, by simpa using hf 0 f0 rfl, by simpa using hf 1 f1 rfl, by simpa using hf 2 f2 rfl, by simpa using hf 3 f3 rfl, by simpa using hf 4 f4 rfl, by simpa using hf 5 f5 rfl, by simpa using hf 6 f6 rfl, by simpa using hf 7 f7 rfl, by simpa using hf 8 f8 rfl⟩
theorem open_rowC {fuel : Nat} {v : Value} {y : DataW H × List MemPlace} (h : DataW.trod enc Try.prog W 0 (fun _ => true) true fuel 23 [v] = some y) : ∃ xs, RowC W v xs ∧ xs.length ≤ 9223372036854775807 := by
  rcases open_ints Try.underlying23 Try.underlying2 (by kernel_rfl) h with ⟨hcs, _⟩ | ⟨a, len, cap, zs, hcs, _, hl, hm, hz, _, hcell, _⟩
  · simp at hcs
    subst hcs
    exact ⟨[], ⟨none, 0, rfl, Nat.le_refl _, .inl rfl, fun _ => rfl⟩, by simp⟩
  · simp at hcs
    subst hcs
    have hz : zs.length = cap := by simpa using hz
    have hlen : (zs.take len).length = len := by simp; omega
    have hr : RowC W (.slice (some a) len cap) (zs.take len) := by
      refine ⟨some a, cap, by rw [hlen], by omega, ?_, by intro h; cases h⟩
      by_cases h0 : len = 0
      · subst h0; exact .inl (by simp)
      obtain ⟨b, off, spot⟩ := a
      have hc := hcell 0 (by omega)
      have hspot : spot = none := by simpa [Addr.add] using World.cell?_spot hc
      subst hspot
      refine .inr ⟨b, off, rfl, fun i hi => ?_⟩
      have hi2 : i < len := by omega
      have h1 := hcell i (by omega)
      rw [Addr.add_lit] at h1
      rw [h1, List.getD_eq_getElem?_getD, List.getD_eq_getElem?_getD, List.getElem?_take, if_pos hi2]
    exact ⟨_, hr, by unfold maxLen at hm; omega⟩
set_option maxRecDepth 100000 in
theorem open_portV {fuel : Nat} {v : Value} {y : DataW H × List MemPlace} (h : DataW.trod enc Try.prog W 0 (fun _ => true) true fuel 22 [v] = some y) : ∃ xs, PortV W v xs ∧ xs.length ≤ 9223372036854775807 := by
  rcases open_slice Try.underlying22 h with ⟨hcs, _⟩ | ⟨a, len, cap, m, n, D, Pl, hcs, hb, hl, hm, hmm, _, hall⟩
  · simp at hcs
    subst hcs
    exact ⟨[], ⟨none, 0, rfl, Nat.le_refl _, .inl rfl⟩, by simp⟩
  · simp at hcs
    subst hcs
    have hmm : m = cap := by simpa using hmm
    subst hmm
    have key : ∀ i, i < len → ∃ x : LPort, W.cell? (a.add (i * 2)) = some (.int .i64 x.cell) ∧ W.cell? ((a.add (i * 2)).add 1) = some (.bool x.bool) := by
      intro i hi
      obtain ⟨cs', h1, h2⟩ := hall i (by omega)
      rw [cellsPortB] at h1
      unfold World.cells? at h1
      rw [if_pos (Nat.zero_le _)] at h1
      obtain ⟨c0, c1, rfl, g0, g1⟩ := range2 h1
      obtain ⟨y0, y1, n', hx, k0, k1⟩ := trod_struct2B Try.underlying72 h2
      rw [cellsIntB] at k0
      rw [cellsBoolB] at k1
      obtain ⟨k, e0, _, _⟩ := DataW.trod_int Try.underlying2 k0
      obtain ⟨b, e1, _⟩ := DataW.trod_bool Try.underlying4 k1
      simp at e0 e1
      subst e0 e1
      exact ⟨⟨k, b⟩, by simpa [Addr.add] using g0, g1⟩
    obtain ⟨xs, hxl, hxs⟩ := gatherB key
    refine ⟨xs, ⟨some a, m, by rw [hxl], by omega, ?_⟩, by unfold maxLen at hm; omega⟩
    by_cases h0 : len = 0
    · exact .inl (List.eq_nil_of_length_eq_zero (by omega))
    obtain ⟨b, o, spot⟩ := a
    obtain ⟨x0, q0, _⟩ := key 0 (by omega)
    have hs : spot = none := by simpa [Addr.add] using World.cell?_spot q0
    subst hs
    refine .inr ⟨b, o, rfl, fun i x hx => ?_⟩
    obtain ⟨q0, q1⟩ := hxs i x hx
    simp only [add_noneB] at q0 q1
    exact ⟨q0, q1⟩
set_option maxRecDepth 100000 in
theorem open_bld {base : Nat} {v : Value} {d : DataW H} {p : List MemPlace} (hv : Value.okWide Try.prog W .any base 25 v) (h : DataW.Trod enc Try.prog W 0 (fun _ => true) true 25 v d p) :
    ∃ (vp vo va vb vs vt : Value) (m : LBuild), v = .agg #[.int .i64 m.cells, vp, vo, va, vb, vs, vt, .int .i64 m.budA, .int .i64 m.budB] ∧ IsBld W vp vo va vb vs vt m := by
  obtain ⟨cs, rfl, hsz⟩ := okWide_struct Try.underlying25 hv
  obtain ⟨l⟩ := cs
  obtain ⟨c0, c1, c2, c3, c4, c5, c6, c7, c8, rfl⟩ := list9 (by simpa using hsz.trans cellsBuild)
  obtain ⟨fuel, hf⟩ := h
  obtain ⟨y0, y1, y2, y3, y4, y5, y6, y7, y8, n, _, h0, h1, h2, h3, h4, h5, h6, h7, h8⟩ := trod_struct9 Try.underlying25 hf
  replace h0 : DataW.trod enc Try.prog W 0 (fun _ => true) true n 2 [c0] = some y0 := by simpa [Value.cells, cellsIntB] using h0
  replace h1 : DataW.trod enc Try.prog W 0 (fun _ => true) true n 22 [c1] = some y1 := by simpa [Value.cells, cellsPortsB] using h1
  replace h2 : DataW.trod enc Try.prog W 0 (fun _ => true) true n 23 [c2] = some y2 := by simpa [Value.cells, cellsIntsB] using h2
  replace h3 : DataW.trod enc Try.prog W 0 (fun _ => true) true n 23 [c3] = some y3 := by simpa [Value.cells, cellsIntsB] using h3
  replace h4 : DataW.trod enc Try.prog W 0 (fun _ => true) true n 23 [c4] = some y4 := by simpa [Value.cells, cellsIntsB] using h4
  replace h5 : DataW.trod enc Try.prog W 0 (fun _ => true) true n 23 [c5] = some y5 := by simpa [Value.cells, cellsIntsB] using h5
  replace h6 : DataW.trod enc Try.prog W 0 (fun _ => true) true n 23 [c6] = some y6 := by simpa [Value.cells, cellsIntsB] using h6
  replace h7 : DataW.trod enc Try.prog W 0 (fun _ => true) true n 2 [c7] = some y7 := by simpa [Value.cells, cellsIntB] using h7
  replace h8 : DataW.trod enc Try.prog W 0 (fun _ => true) true n 2 [c8] = some y8 := by simpa [Value.cells, cellsIntB] using h8
  obtain ⟨k0, e0, _, _⟩ := DataW.trod_int Try.underlying2 h0
  obtain ⟨k7, e7, _, _⟩ := DataW.trod_int Try.underlying2 h7
  obtain ⟨k8, e8, _, _⟩ := DataW.trod_int Try.underlying2 h8
  obtain ⟨ps, hp, lp⟩ := open_portV h1
  obtain ⟨x2, r2, l2⟩ := open_rowC h2
  obtain ⟨x3, r3, l3⟩ := open_rowC h3
  obtain ⟨x4, r4, l4⟩ := open_rowC h4
  obtain ⟨x5, r5, l5⟩ := open_rowC h5
  obtain ⟨x6, r6, l6⟩ := open_rowC h6
  simp at e0 e7 e8
  subst e0 e7 e8
  exact ⟨c1, c2, c3, c4, c5, c6, ⟨k0, ps, x2, x3, x4, x5, x6, k7, k8⟩, rfl, ⟨hp, r2, r3, r4, r5, r6⟩, ⟨lp, l2, l3, l4, l5, l6⟩⟩
end
end Go.Proofs.Ytpobajblngblfaa
