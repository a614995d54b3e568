/-
  impl.WordsFault answers its plain fault at every list of numbers that lies in memory; the small tests (fitsWord, l1In, l1Word) answer as they should.
-/
import Derived.Test.YtcikofhbfncgdaaInvM
import Derived.Test.YtcikofhbfncgdaaDrawG
import Derived.Test.YtcikofhbfncgdaaDrawG
import Derived.Test.YtcikofhbfncgdaaStkMem
import Derived.Lib.SmallJoins
import Derived.Deep.Slices
import Derived.ChangeOld
import Derived.ShutString
import Derived.Test.YtcikofhbfncgdaaDraws
import Derived.Test.YtcikofhbfncgdaaReck1
namespace Go.Proofs.Ytcikofhbfncgdaa
open Go.RowKit
set_option linter.unusedVariables false

set_option maxHeartbeats 3200000 in
set_option maxRecDepth 100000 in
theorem drawRunG_any (c : Option Addr) (K cap : Nat) (w : World) (hK : K ≤ 1048576) (hb : Bytes w c K) (ha : K ≠ 0 → ∀ b o s, c = some ⟨b, o, s⟩ → b < w.heap.size) :
    Calls Try.prog 16 #[.slice c K cap] w fun e w' => ∃ (zs ys : List Int) (bud : Int) (a1 a2 : Option Addr) (c1 c2 : Nat), e = .returned (.tuple #[.slice a1 zs.length c1, .slice a2 ys.length c2, .int .i64 bud]) ∧ zs.length ≤ 500 ∧ ys.length ≤ 500 ∧ Own w' w.heap.size (.slice a1 zs.length c1) zs ∧ Own w' w.heap.size (.slice a2 ys.length c2) ys ∧ Below w.heap.size w w' := by
  have HR1 : Hid (Ready (w.alloc (.cells #[.slice c K cap, .int .i64 0] 124)) w.heap.size c K cap 0) := ready_new hb ha
  have HW1 := hid (alloc_bel w (.cells #[.slice c K cap, .int .i64 0] 124))
  clear hb ha
  go_enter Try.func16, Try.ntmps16
  go_wp2_with fail
  refine (source_any c K cap w).mono ?_
  rintro e w0 ⟨rfl, rfl⟩
  generalize w.alloc (.cells #[.slice c K cap, .int .i64 0] 124) = W1 at *
  go_wp2_with fail
  refine (code_anyG w.heap.size K cap 0 c W1 hK (by omega) HR1.out).mono ?_
  rintro e w2 ⟨a1, c1, A2, zs, rfl, hzl, hA2, hd⟩
  have HD2 := hid hd
  clear hd HR1
  go_wp2_with fail
  refine (cells_any w.heap.size K cap A2 c w2 hK (by omega) HD2.out.r).mono ?_
  rintro e w3 ⟨a2, c2, A3, ys, rfl, hyl, hA3, hd⟩
  have HZ3 := hid (own_only HD2.out.z hd.o HD2.out.l.1)
  have HD3 := hid hd
  have HB3 := hid (HW1.out.trans (HD2.out.o.1.trans hd.o.1))
  have HS : Hid (w.heap.size < W1.heap.size ∧ W1.heap.size ≤ w2.heap.size) := ⟨HD2.out.l.1, by have := HD2.out.l.2; have := HD2.out.o.1.size; omega⟩
  clear hd HD2 HW1
  go_wp2_with fail
  refine (draw_next w.heap.size K cap A3 c 20 w3 hK (by omega) (by omega) (by omega) HD3.out.r).mono ?_
  rintro e w4 ⟨r, rfl, _, _, hr, ho⟩
  have HD4 := hid (HD3.out.draw hr ho)
  have HZ4 := hid (own_only HZ3.out ho HS.out.1)
  have HB4 := hid (HB3.out.trans ho.1)
  clear hr ho HD3 HZ3 HB3
  have HD5 := hid (HD4.out.below (alloc_bel w4 (.cells #[.int .i64 100, .int .i64 r, .int .i64 0, .int .i64 20000, .int .i64 20001, .int .i64 (-1)] 2)))
  have HZ5 := hid (own_kept HZ4.out (alloc_bel w4 (.cells #[.int .i64 100, .int .i64 r, .int .i64 0, .int .i64 20000, .int .i64 20001, .int .i64 (-1)] 2)))
  have HB5 := hid (HB4.out.trans ((alloc_bel w4 (.cells #[.int .i64 100, .int .i64 r, .int .i64 0, .int .i64 20000, .int .i64 20001, .int .i64 (-1)] 2)).mono HB4.out.size))
  have HP5 : Hid (Picks (w4.alloc (.cells #[.int .i64 100, .int .i64 r, .int .i64 0, .int .i64 20000, .int .i64 20001, .int .i64 (-1)] 2)) w4.heap.size [100, r, 0, 20000, 20001, -1]) := picks_new w4 [100, r, 0, 20000, 20001, -1] 2
  have hne : w4.heap.size ≠ w.heap.size := by have := HD4.out.r.src.lt; omega
  clear HD4 HZ4 HB4
  go_wp2_with fail
  refine (draw_pick w.heap.size K cap (A3 + 1) c w4.heap.size [100, r, 0, 20000, 20001, -1] 6 6 _ hK (by omega) rfl (by omega) (by omega) HP5.out hne HD5.out.r).mono ?_
  rintro e w6 ⟨bud, rfl, _, hr, ho⟩
  have HD6 := hid (HD5.out.draw hr ho)
  have HZ6 := hid (own_only HZ5.out ho HS.out.1)
  have HB6 := hid (HB5.out.trans ho.1)
  clear hr ho HD5 HZ5 HB5 HP5 hne
  go_wp2_with fail
  go_returns
  exact ⟨zs, ys, bud, a1, a2, c1, c2, rfl, hzl, hyl, own_mono HZ6.out (by have := HS.out; omega), own_mono HD6.out.z (by have := HS.out; omega), HB6.out⟩
end Go.Proofs.Ytcikofhbfncgdaa
namespace Go.Proofs.Ytcikofhbfncgdaa
open Go.RowKit
set_option linter.unusedVariables false

/-- spec's machine, in block p -/
def RunT (B : Nat) (w : World) (p : Nat) (m : SM) : Prop := ∃ sv cv, w.heap[p]? = some (.cells (lineS m sv cv) 28 (0, 0)) ∧ MemO B w p sv cv m
theorem RunT.kept {B p : Nat} {w w' : World} {m : SM} (h : RunT B w p m) (hb : Below w.heap.size w w') : RunT B w' p m := by
  obtain ⟨sv, cv, hl, hm⟩ := h
  exact ⟨sv, cv, blk8 hl hb, hm.of (fun g hg _ => hb.block g hg) rfl rfl⟩
theorem RunT.fld {B p : Nat} {w : World} {m m' : SM} (h : RunT B w p m) (i : Nat) (v : Value) (hf : ∀ sv cv, (lineS m sv cv).setIfInBounds i v = lineS m' sv cv) (e1 : m'.stk = m.stk) (e2 : m'.cells = m.cells) : RunT B (w.setCell ⟨p, i, none⟩ v) p m' := by
  obtain ⟨sv, cv, hl, hm⟩ := h
  refine ⟨sv, cv, ?_, hm.of (fun g hg hne => heap_setCell_other _ _ _ _ hne) e1 e2⟩
  have := heap_setCell_same w p i _ _ v hl
  rw [hf sv cv] at this
  exact this
theorem RunT.heap {B p : Nat} {w w' : World} {m : SM} (h : RunT B w p m) (e : w'.heap = w.heap) : RunT B w' p m := by
  obtain ⟨sv, cv, hl, hm⟩ := h
  exact ⟨sv, cv, by rw [e]; exact hl, hm.heap e⟩
theorem RunT.lt {B p : Nat} {w : World} {m : SM} (h : RunT B w p m) : B ≤ p ∧ p < w.heap.size := by
  obtain ⟨sv, cv, hb, hm⟩ := h
  exact ⟨hm.pB, (Array.getElem?_eq_some_iff.1 hb).1⟩
theorem RunT.cells {p : Nat} {w : World} {m : SM} {sv cv : Value} (h : w.heap[p]? = some (.cells (lineS m sv cv) 28 (0, 0))) :
    w.cell? ⟨p, 0, none⟩ = some (.int .i64 m.pc) ∧ w.cell? ⟨p, 1, none⟩ = some sv ∧ w.cell? ⟨p, 2, none⟩ = some cv ∧ w.cell? ⟨p, 3, none⟩ = some (.int .i64 m.sig) ∧ w.cell? ⟨p, 4, none⟩ = some (.int .i64 m.used) ∧ w.cell? ⟨p, 5, none⟩ = some (.int .i64 m.trap) ∧ w.cell? ⟨p, 6, none⟩ = some (.bool m.done) :=
  ⟨cell_of_row _ _ 0 _ _ _ h, cell_of_row _ _ 1 _ _ _ h, cell_of_row _ _ 2 _ _ _ h, cell_of_row _ _ 3 _ _ _ h, cell_of_row _ _ 4 _ _ _ h, cell_of_row _ _ 5 _ _ _ h, cell_of_row _ _ 6 _ _ _ h⟩
/-- a word is stored into a register -/
theorem MemO.reg {B p g n c k : Nat} {w : World} {cv : Value} {m : SM} (h : MemO B w p (.slice (some ⟨g, 0, none⟩) n c) cv m) (x : Int) : MemO B (w.setCell ⟨g, k, none⟩ (.int .i64 x)) p (.slice (some ⟨g, 0, none⟩) n c) cv { m with stk := m.stk.set k x } :=
  ⟨own_put h.ss x, own_other h.cs (fun j hj => heap_setCell_other _ _ _ _ (fun e => h.d3 g rfl (by rw [hj, e]))), h.pB, h.d1, h.d2, h.d3⟩
end Go.Proofs.Ytcikofhbfncgdaa
namespace Go.Proofs.Ytcikofhbfncgdaa
open Go.RowKit Go.ChangeShapes Go.WideShapes Go.Deep Go.Lib Go.Joins
set_option linter.unusedVariables false

/-- a machine that comes in -/
structure IsMach (w : World) (sv cv : Value) (m : SM) : Prop where
  s : RowV w sv m.stk
  c : RowV w cv m.cells
  sl : m.stk.length ≤ 9223372036854775807
  cl : m.cells.length ≤ 9223372036854775807
theorem cellsMach : Try.prog.cellsOf 67 = 7 := by kernel_rfl
theorem cellsIntM : Try.prog.cellsOf 2 = 1 := by kernel_rfl
theorem cellsIntsM : Try.prog.cellsOf 24 = 1 := by kernel_rfl
theorem cellsBoolM : Try.prog.cellsOf 4 = 1 := by kernel_rfl
theorem list7 {α : Type} {cs : List α} (h : cs.length = 7) : ∃ c0 c1 c2 c3 c4 c5 c6, cs = [c0, c1, c2, c3, c4, c5, c6] := by
  match cs, h with
  | [c0, c1, c2, c3, c4, c5, c6], _ => exact ⟨c0, c1, c2, c3, c4, c5, c6, rfl⟩
section
variable {H : Type} {enc : TypeId × Value → H} {W : World}
theorem trod_struct7 {P : Program} {w : World} {base : Nat} {spare : Nat → Bool} {held : Bool} {t : TypeId} {f0 f1 f2 f3 f4 f5 f6 : Field} {fuel : Nat} {cs : List Value} {x : DataW H × List MemPlace} (ht : P.underlying t = some (.struct #[f0, f1, f2, f3, f4, f5, f6])) (h : DataW.trod enc P w base spare held fuel t cs = some x) :
    ∃ y0 y1 y2 y3 y4 y5 y6 n, cs.length = P.cellsOf t ∧ DataW.trod enc P w base spare held n f0.type ((cs.drop f0.offset).take (P.cellsOf f0.type)) = some y0 ∧
      DataW.trod enc P w base spare held n f1.type ((cs.drop f1.offset).take (P.cellsOf f1.type)) = some y1 ∧ DataW.trod enc P w base spare held n f2.type ((cs.drop f2.offset).take (P.cellsOf f2.type)) = some y2 ∧
      DataW.trod enc P w base spare held n f3.type ((cs.drop f3.offset).take (P.cellsOf f3.type)) = some y3 ∧ DataW.trod enc P w base spare held n f4.type ((cs.drop f4.offset).take (P.cellsOf f4.type)) = some y4 ∧
      DataW.trod enc P w base spare held n f5.type ((cs.drop f5.offset).take (P.cellsOf f5.type)) = some y5 ∧ DataW.trod enc P w base spare held n f6.type ((cs.drop f6.offset).take (P.cellsOf f6.type)) = some y6 := by
  obtain ⟨xs, n, _, rfl, hl, hlen, hf⟩ := DataW.trod_struct ht h
  match xs, hlen with
  | [y0, y1, y2, y3, y4, y5, y6], _ => exact ⟨y0, y1, y2, y3, y4, y5, y6, n, hl, by simpa using hf 0 f0 rfl, by simpa using hf 1 f1 rfl, by simpa using hf 2 f2 rfl, by simpa using hf 3 f3 rfl, by simpa using hf 4 f4 rfl, by simpa using hf 5 f5 rfl, by simpa using hf 6 f6 rfl⟩
theorem open_rowV {fuel : Nat} {v : Value} {y : DataW H × List MemPlace} (h : DataW.trod enc Try.prog W 0 (fun _ => true) true fuel 24 [v] = some y) : ∃ xs, RowV W v xs ∧ xs.length ≤ 9223372036854775807 := by
  rcases open_ints Try.underlying24 Try.underlying2 (by kernel_rfl) h with ⟨hcs, _⟩ | ⟨a, len, cap, zs, hcs, _, hl, hm, hz, _, hcell, _⟩
  · simp at hcs
    subst hcs
    exact ⟨[], ⟨none, 0, rfl, .inl rfl, fun _ => rfl⟩, by simp⟩
  · simp at hcs
    subst hcs
    have hz : zs.length = cap := by simpa using hz
    have hlen : (zs.take len).length = len := by simp; omega
    have hr : RowV W (.slice (some a) len cap) (zs.take len) := by
      refine ⟨some a, cap, by rw [hlen], ?_, by intro h; cases h⟩
      by_cases h0 : len = 0
      · subst h0; exact .inl (by simp)
      obtain ⟨b, off, spot⟩ := a
      have hc := hcell 0 (by omega)
      have hspot : spot = none := by simpa [Addr.add] using World.cell?_spot hc
      subst hspot
      refine .inr ⟨b, off, rfl, fun i hi => ?_⟩
      have hi2 : i < len := by omega
      have h1 := hcell i (by omega)
      rw [Addr.add_lit] at h1
      rw [h1, List.getD_eq_getElem?_getD, List.getD_eq_getElem?_getD, List.getElem?_take, if_pos hi2]
    exact ⟨_, hr, by unfold maxLen at hm; omega⟩
set_option maxRecDepth 100000 in
theorem open_mach {base : Nat} {v : Value} {d : DataW H} {p : List MemPlace} (hv : Value.okWide Try.prog W .any base 67 v) (h : DataW.Trod enc Try.prog W 0 (fun _ => true) true 67 v d p) :
    ∃ (sv cv : Value) (m : SM), v = .agg #[.int .i64 m.pc, sv, cv, .int .i64 m.sig, .int .i64 m.used, .int .i64 m.trap, .bool m.done] ∧ IsMach W sv cv m := by
  obtain ⟨cs, rfl, hsz⟩ := okWide_struct Try.underlying67 hv
  obtain ⟨l⟩ := cs
  obtain ⟨c0, c1, c2, c3, c4, c5, c6, rfl⟩ := list7 (by simpa using hsz.trans cellsMach)
  obtain ⟨fuel, hf⟩ := h
  obtain ⟨y0, y1, y2, y3, y4, y5, y6, n, _, h0, h1, h2, h3, h4, h5, h6⟩ := trod_struct7 Try.underlying67 hf
  replace h0 : DataW.trod enc Try.prog W 0 (fun _ => true) true n 2 [c0] = some y0 := by simpa [Value.cells, cellsIntM] using h0
  replace h1 : DataW.trod enc Try.prog W 0 (fun _ => true) true n 24 [c1] = some y1 := by simpa [Value.cells, cellsIntsM] using h1
  replace h2 : DataW.trod enc Try.prog W 0 (fun _ => true) true n 24 [c2] = some y2 := by simpa [Value.cells, cellsIntsM] using h2
  replace h3 : DataW.trod enc Try.prog W 0 (fun _ => true) true n 2 [c3] = some y3 := by simpa [Value.cells, cellsIntM] using h3
  replace h4 : DataW.trod enc Try.prog W 0 (fun _ => true) true n 2 [c4] = some y4 := by simpa [Value.cells, cellsIntM] using h4
  replace h5 : DataW.trod enc Try.prog W 0 (fun _ => true) true n 2 [c5] = some y5 := by simpa [Value.cells, cellsIntM] using h5
  replace h6 : DataW.trod enc Try.prog W 0 (fun _ => true) true n 4 [c6] = some y6 := by simpa [Value.cells, cellsBoolM] using h6
  obtain ⟨k0, e0, _, _⟩ := DataW.trod_int Try.underlying2 h0
  obtain ⟨k3, e3, _, _⟩ := DataW.trod_int Try.underlying2 h3
  obtain ⟨k4, e4, _, _⟩ := DataW.trod_int Try.underlying2 h4
  obtain ⟨k5, e5, _, _⟩ := DataW.trod_int Try.underlying2 h5
  obtain ⟨k6, e6, _⟩ := DataW.trod_bool Try.underlying4 h6
  obtain ⟨s, hs, ls⟩ := open_rowV h1
  obtain ⟨c, hc, lc⟩ := open_rowV h2
  simp at e0 e3 e4 e5 e6
  subst e0 e3 e4 e5 e6
  exact ⟨c1, c2, ⟨k0, s, c, k3, k4, k5, k6⟩, rfl, hs, hc, ls, lc⟩
end
end Go.Proofs.Ytcikofhbfncgdaa
namespace Go.Proofs.Ytcikofhbfncgdaa
open Go.RowKit Go.ChangeShapes Go.WideShapes Go.Deep Go.Lib Go.Joins
set_option linter.unusedVariables false

theorem cellsMachG : Try.prog.cellsOf 47 = 7 := by kernel_rfl
section
variable {H : Type} {enc : TypeId × Value → H} {W : World}
set_option maxRecDepth 100000 in
theorem open_machG {base : Nat} {v : Value} {d : DataW H} {p : List MemPlace} (hv : Value.okWide Try.prog W .any base 47 v) (h : DataW.Trod enc Try.prog W 0 (fun _ => true) true 47 v d p) :
    ∃ (sv cv : Value) (m : SM), v = .agg #[.int .i64 m.pc, sv, cv, .int .i64 m.sig, .int .i64 m.used, .int .i64 m.trap, .bool m.done] ∧ IsMach W sv cv m := by
  obtain ⟨cs, rfl, hsz⟩ := okWide_struct Try.underlying47 hv
  obtain ⟨l⟩ := cs
  obtain ⟨c0, c1, c2, c3, c4, c5, c6, rfl⟩ := list7 (by simpa using hsz.trans cellsMachG)
  obtain ⟨fuel, hf⟩ := h
  obtain ⟨y0, y1, y2, y3, y4, y5, y6, n, _, h0, h1, h2, h3, h4, h5, h6⟩ := trod_struct7 Try.underlying47 hf
  replace h0 : DataW.trod enc Try.prog W 0 (fun _ => true) true n 2 [c0] = some y0 := by simpa [Value.cells, cellsIntM] using h0
  replace h1 : DataW.trod enc Try.prog W 0 (fun _ => true) true n 24 [c1] = some y1 := by simpa [Value.cells, cellsIntsM] using h1
  replace h2 : DataW.trod enc Try.prog W 0 (fun _ => true) true n 24 [c2] = some y2 := by simpa [Value.cells, cellsIntsM] using h2
  replace h3 : DataW.trod enc Try.prog W 0 (fun _ => true) true n 2 [c3] = some y3 := by simpa [Value.cells, cellsIntM] using h3
  replace h4 : DataW.trod enc Try.prog W 0 (fun _ => true) true n 2 [c4] = some y4 := by simpa [Value.cells, cellsIntM] using h4
  replace h5 : DataW.trod enc Try.prog W 0 (fun _ => true) true n 2 [c5] = some y5 := by simpa [Value.cells, cellsIntM] using h5
  replace h6 : DataW.trod enc Try.prog W 0 (fun _ => true) true n 4 [c6] = some y6 := by simpa [Value.cells, cellsBoolM] using h6
  obtain ⟨k0, e0, _, _⟩ := DataW.trod_int Try.underlying2 h0
  obtain ⟨k3, e3, _, _⟩ := DataW.trod_int Try.underlying2 h3
  obtain ⟨k4, e4, _, _⟩ := DataW.trod_int Try.underlying2 h4
  obtain ⟨k5, e5, _, _⟩ := DataW.trod_int Try.underlying2 h5
  obtain ⟨k6, e6, _⟩ := DataW.trod_bool Try.underlying4 h6
  obtain ⟨s, hs, ls⟩ := open_rowV h1
  obtain ⟨c, hc, lc⟩ := open_rowV h2
  simp at e0 e3 e4 e5 e6
  subst e0 e3 e4 e5 e6
  exact ⟨c1, c2, ⟨k0, s, c, k3, k4, k5, k6⟩, rfl, hs, hc, ls, lc⟩
end
end Go.Proofs.Ytcikofhbfncgdaa
namespace Go.Proofs.Ytcikofhbfncgdaa
open Go.RowKit
set_option linter.unusedVariables false

/-- block r alone has turned -/
structure Sole1 (r : Nat) (W Z : World) : Prop where
  bel : Below r W Z
  oth : ∀ g, g ≠ r → Z.heap[g]? = W.heap[g]?
theorem Sole1.refl (r : Nat) (W : World) : Sole1 r W W := ⟨Below.refl _ _, fun _ _ => rfl⟩
theorem Sole1.set {r : Nat} {W Z : World} (h : Sole1 r W Z) (i : Nat) (v : Value) : Sole1 r W (Z.setCell ⟨r, i, none⟩ v) :=
  ⟨h.bel.setCell (Nat.le_refl _) v, fun g hg => (heap_setCell_other Z ⟨r, i, none⟩ g v hg).trans (h.oth g hg)⟩

theorem own_sole {w w' : World} {B r n : Nat} {v : Value} {xs : List Value} (h : w.ownsRow B 2 1 v n xs) (hs : Sole1 r w w') (hr : v.ownBlock ≠ some r) : w'.ownsRow B 2 1 v n xs :=
  own_other h (fun g hg => hs.oth g (fun e => hr (by rw [hg, e])))

end Go.Proofs.Ytcikofhbfncgdaa
namespace Go.Proofs.Ytcikofhbfncgdaa
open Go.RowKit

/-- the numbers that are words -/
def isWord (z : Int) : Prop := 0 ≤ z ∧ z ≤ 65535

theorem fitsWord_yes (z : Int) (w : World) (h1 : 0 ≤ z) (h2 : z ≤ 65535) :
    Calls Try.prog 112 #[.int .i64 z] w fun e w' => e = .returned (.bool true) ∧ w' = w := by
  go_enter Try.func112, Try.ntmps112
  go_wp2
  go_ret
  exact ⟨rfl, rfl⟩

theorem fitsWord_no (z : Int) (w : World) (h : z < 0 ∨ 65535 < z) :
    Calls Try.prog 112 #[.int .i64 z] w fun e w' => e = .returned (.bool false) ∧ w' = w := by
  rcases h with h | h
  · have hd : decide (0 ≤ z) = false := decide_eq_false (by omega)
    go_enter Try.func112, Try.ntmps112
    go_wp2
    go_ret
    exact ⟨rfl, rfl⟩
  · have h0 : 0 ≤ z := by omega
    have hd : decide (z ≤ 65535) = false := decide_eq_false (by omega)
    go_enter Try.func112, Try.ntmps112
    go_wp2
    go_ret
    exact ⟨rfl, rfl⟩

theorem l1In_yes (z a b : Int) (w : World) (h1 : a ≤ z) (h2 : z ≤ b) :
    Calls Try.prog 71 #[.int .i64 z, .int .i64 a, .int .i64 b] w fun e w' => e = .returned (.bool true) ∧ w' = w := by
  go_enter Try.func71, Try.ntmps71
  go_wp2
  go_ret
  exact ⟨rfl, rfl⟩

theorem l1In_no (z a b : Int) (w : World) (h : z < a ∨ b < z) :
    Calls Try.prog 71 #[.int .i64 z, .int .i64 a, .int .i64 b] w fun e w' => e = .returned (.bool false) ∧ w' = w := by
  by_cases h1 : a ≤ z
  · have hd : decide (z ≤ b) = false := decide_eq_false (by omega)
    clear h
    go_enter Try.func71, Try.ntmps71
    go_wp2
    go_ret
    exact ⟨rfl, rfl⟩
  · have hd : decide (a ≤ z) = false := decide_eq_false (by omega)
    clear h
    go_enter Try.func71, Try.ntmps71
    go_wp2
    go_ret
    exact ⟨rfl, rfl⟩

theorem l1Word_yes (z : Int) (w : World) (h1 : 0 ≤ z) (h2 : z ≤ 65535) :
    Calls Try.prog 82 #[.int .i64 z] w fun e w' => e = .returned (.bool true) ∧ w' = w := by
  go_enter Try.func82, Try.ntmps82
  go_wp2_with (go_at_call 71; refine (l1In_yes _ _ _ _ h1 h2).mono ?_; rintro e w' ⟨rfl, rfl⟩)
  go_ret
  exact ⟨rfl, rfl⟩

theorem l1Word_no (z : Int) (w : World) (h : z < 0 ∨ 65535 < z) :
    Calls Try.prog 82 #[.int .i64 z] w fun e w' => e = .returned (.bool false) ∧ w' = w := by
  go_enter Try.func82, Try.ntmps82
  go_wp2_with (go_at_call 71; refine (l1In_no _ _ _ _ h).mono ?_; rintro e w' ⟨rfl, rfl⟩)
  go_ret
  exact ⟨rfl, rfl⟩

/-- what WordsFault answers -/
def fault (zs : List Int) : Int := if 400 < zs.length then 2 else if ∀ z ∈ zs, 0 ≤ z ∧ z ≤ 65535 then 0 else 3

theorem fault_many {zs : List Int} (h : 400 < zs.length) : fault zs = 2 := by rw [fault, if_pos h]
theorem fault_ok {zs : List Int} (h : zs.length ≤ 400) (hz : ∀ i, i < zs.length → 0 ≤ zs.getD i 0 ∧ zs.getD i 0 ≤ 65535) : fault zs = 0 := by
  rw [fault, if_neg (by omega), if_pos]
  intro z hm
  obtain ⟨i, hi, rfl⟩ := List.getElem_of_mem hm
  have := hz i hi
  rw [List.getD_eq_getElem?_getD, List.getElem?_eq_getElem hi] at this
  simpa using this
theorem fault_bad {zs : List Int} (h : zs.length ≤ 400) (i : Nat) (hi : i < zs.length) (hz : zs.getD i 0 < 0 ∨ 65535 < zs.getD i 0) : fault zs = 3 := by
  rw [fault, if_neg (by omega), if_neg]
  intro ha
  have hm : zs.getD i 0 ∈ zs := by
    rw [List.getD_eq_getElem?_getD, List.getElem?_eq_getElem hi]; simp
  have := ha _ hm
  omega

theorem fault_all {zs : List Int} (h : zs.length ≤ 400) : fault zs = if wordsB zs then 0 else 3 := by
  rw [fault, if_neg (by omega)]
  by_cases hw : wordsB zs = true
  · rw [if_pos (fun z hz => wordsB_mem hw hz), if_pos hw]
  · rw [if_neg (fun h => hw (by unfold wordsB; rw [List.all_eq_true]; exact fun z hz => inB_iff.2 (h z hz))), if_neg hw]

set_option maxHeartbeats 800000 in
theorem allWords_any (g cap n : Nat) (A : Nat → Option Addr) (Z : Nat → List Int) (C : Nat → Nat) (w : World) (hn8 : n ≤ 8)
    (hg : ∀ i, i < n → w.cell? ⟨g, i, none⟩ = some (.slice (A i) (Z i).length (C i)))
    (hlen : ∀ i, i < n → (Z i).length ≤ 9223372036854775807) (hn : ∀ i, i < n → Nums w (A i) (Z i)) :
    Calls Try.prog 78 #[.slice (some ⟨g, 0, none⟩) n cap] w fun e w' => e = .returned (.bool (allB Z n)) ∧ w' = w := by
  go_enter Try.func78, Try.ntmps78
  go_wp2
  go_loop [4, 9] (fun _ i => ∃ k : Nat, k ≤ n ∧ i = .int .i64 k ∧ ∀ j, j < k → wordsB (Z j) = true) (fun _ i => n - (intOf i).toNat)
  case atStart => exact ⟨0, Nat.zero_le _, rfl, fun j hj => by omega⟩
  case round =>
    obtain ⟨k, hk, rfl, ho⟩ := hrel
    have HO : Hid _ := ho
    clear ho
    by_cases hlt : k < n
    · have hcell := hg k hlt
      have hl := hlen k hlt
      have hnn := hn k hlt
      have HB : Hid (∀ m, m < (Z k).length → ((Z k).getD m 0 < 0 ∨ 65535 < (Z k).getD m 0) → allB Z n = false) := fun m hm hz => allB_bad k hlt (wordsB_bad m hm hz)
      have HG : Hid (wordsB (Z k) = true → ∀ j, j < k + 1 → wordsB (Z j) = true) := fun hw j hj => by
        by_cases e : j = k
        · subst e; exact hw
        · exact HO.out j (by omega)
      generalize hzs : Z k = zs at *
      generalize A k = a at *
      generalize C k = c at *
      clear hg hlen hn hzs HO
      go_wp2
      go_loop [6, 15] (fun _ i => ∃ m : Nat, m ≤ zs.length ∧ i = .int .i64 m ∧ ∀ j, j < m → 0 ≤ zs.getD j 0 ∧ zs.getD j 0 ≤ 65535) (fun _ i => zs.length - (intOf i).toNat)
      case atStart => exact ⟨0, Nat.zero_le _, rfl, fun j hj => by omega⟩
      case round =>
        obtain ⟨m, hm, rfl, ho⟩ := hrel
        have HO : Hid _ := ho
        clear ho
        by_cases hlm : m < zs.length
        · rcases hnn with hnn | ⟨b, off, rfl, hc⟩
          · subst hnn; simp at hlm
          have hcell2 := hc m hlm
          clear hc
          obtain ⟨z, hz⟩ : ∃ z, z = zs.getD m 0 := ⟨_, rfl⟩
          rw [← hz] at hcell2
          have HZ : Hid _ := hz
          clear hz
          by_cases h5 : 0 ≤ z ∧ z ≤ 65535
          · obtain ⟨h5, h6⟩ := h5
            go_wp2_with (go_at_call 112; refine (fitsWord_yes _ _ h5 h6).mono ?_; rintro e w' ⟨rfl, rfl⟩)
            go_round
            case rel =>
              refine ⟨m + 1, by omega, by go_num, fun j hj => ?_⟩
              by_cases hjk : j = m
              · subst hjk; rw [← HZ.out]; exact ⟨h5, h6⟩
              · exact HO.out j (by omega)
            case measure => simp [intOf]; omega
          · have h6 : z < 0 ∨ 65535 < z := by omega
            have H6 : Hid _ := h6
            clear h6 h5
            go_wp2_with (go_at_call 112; refine (fitsWord_no _ _ H6.out).mono ?_; rintro e w' ⟨rfl, rfl⟩)
            go_ret
            exact ⟨by rw [HB.out m hlm (by rw [← HZ.out]; exact H6.out)]; rfl, rfl⟩
        · have hk2 : m = zs.length := by omega
          subst hk2
          go_wp2
          go_round
          case rel => exact ⟨k + 1, by omega, by go_num, HG.out (wordsB_ok HO.out)⟩
          case measure => simp [intOf]; omega
    · have hk2 : k = n := by omega
      subst hk2
      go_wp2
      go_ret
      exact ⟨by rw [allB_ok HO.out]; rfl, rfl⟩

set_option maxHeartbeats 400000 in
theorem implFault_any (a : Option Addr) (zs : List Int) (cap : Nat) (w : World) (hlen : zs.length ≤ 9223372036854775807) (hn : Nums w a zs) :
    Calls Try.prog 66 #[.slice a zs.length cap] w fun e w' => e = .returned (.int .i64 (fault zs)) ∧ Below w.heap.size w w' := by
  by_cases h4 : 400 < zs.length
  · rw [fault_many h4]
    go_enter Try.func66, Try.ntmps66
    go_wp2
    go_ret
    exact ⟨rfl, Below.refl _ _⟩
  · have HA : Hid (∀ W, Below w.heap.size w W → W.cell? ⟨w.heap.size, 0, none⟩ = some (.slice a zs.length cap) → Calls Try.prog 78 #[.slice (some ⟨w.heap.size, 0, none⟩) 1 1] W fun e w' => e = .returned (.bool (wordsB zs)) ∧ w' = W) := fun W hb hc => by
      have := allWords_any w.heap.size 1 1 (fun _ => a) (fun _ => zs) (fun _ => cap) W (by omega) (fun i hi => by rw [show i = 0 from by omega]; exact hc) (fun i hi => hlen) (fun i hi => hn.below hb)
      rw [allB_one] at this
      exact this
    have HF : Hid (fault zs = if wordsB zs then 0 else 3) := fault_all (by omega)
    have hB : Below w.heap.size w (w.alloc (.cells #[.slice a zs.length cap] 24 (0, 0))) := (Below.refl _ _).alloc (Nat.le_refl _) _
    have hC : (w.alloc (.cells #[.slice a zs.length cap] 24 (0, 0))).cell? ⟨w.heap.size, 0, none⟩ = some (.slice a zs.length cap) := by simp [go_sem]
    have HX : Hid (Calls Try.prog 78 #[.slice (some ⟨w.heap.size, 0, none⟩) 1 1] (w.alloc (.cells #[.slice a zs.length cap] 24 (0, 0))) fun e w' => e = .returned (.bool (wordsB zs)) ∧ w' = (w.alloc (.cells #[.slice a zs.length cap] 24 (0, 0)))) := HA.out _ hB hC
    have HB : Hid _ := hB
    clear HA hB hC hn
    obtain ⟨q, hq⟩ : ∃ q, q = wordsB zs := ⟨_, rfl⟩
    rw [← hq] at HX HF
    clear hq
    go_enter Try.func66, Try.ntmps66
    go_wp2_with fail
    refine HX.out.mono ?_
    rintro e w' ⟨rfl, rfl⟩
    clear HX
    cases q
    · go_wp2_with fail
      go_ret
      exact ⟨by rw [HF.out]; rfl, HB.out⟩
    · go_wp2_with fail
      go_ret
      exact ⟨by rw [HF.out]; rfl, HB.out⟩
end Go.Proofs.Ytcikofhbfncgdaa
