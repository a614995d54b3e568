/-
  spec's register machine in memory.
-/
import Derived.Test.YtjofghelenfklaaRgM
import Derived.Test.YtjofghelenfklaaStkMem
namespace Go.Proofs.Ytjofghelenfklaa
open Go.RowKit
set_option linter.unusedVariables false

/-- spec's machine, in block p -/
def RunT (B : Nat) (w : World) (p : Nat) (m : SM) : Prop := ∃ sv cv, w.heap[p]? = some (.cells (lineS m sv cv) 28 (0, 0)) ∧ MemO B w p sv cv m
theorem RunT.kept {B p : Nat} {w w' : World} {m : SM} (h : RunT B w p m) (hb : Below w.heap.size w w') : RunT B w' p m := by
  obtain ⟨sv, cv, hl, hm⟩ := h
  exact ⟨sv, cv, blk8 hl hb, hm.of (fun g hg _ => hb.block g hg) rfl rfl⟩
theorem RunT.fld {B p : Nat} {w : World} {m m' : SM} (h : RunT B w p m) (i : Nat) (v : Value) (hf : ∀ sv cv, (lineS m sv cv).setIfInBounds i v = lineS m' sv cv) (e1 : m'.stk = m.stk) (e2 : m'.cells = m.cells) : RunT B (w.setCell ⟨p, i, none⟩ v) p m' := by
  obtain ⟨sv, cv, hl, hm⟩ := h
  refine ⟨sv, cv, ?_, hm.of (fun g hg hne => heap_setCell_other _ _ _ _ hne) e1 e2⟩
  have := heap_setCell_same w p i _ _ v hl
  rw [hf sv cv] at this
  exact this
theorem RunT.heap {B p : Nat} {w w' : World} {m : SM} (h : RunT B w p m) (e : w'.heap = w.heap) : RunT B w' p m := by
  obtain ⟨sv, cv, hl, hm⟩ := h
  exact ⟨sv, cv, by rw [e]; exact hl, hm.heap e⟩
theorem RunT.lt {B p : Nat} {w : World} {m : SM} (h : RunT B w p m) : B ≤ p ∧ p < w.heap.size := by
  obtain ⟨sv, cv, hb, hm⟩ := h
  exact ⟨hm.pB, (Array.getElem?_eq_some_iff.1 hb).1⟩
theorem RunT.cells {p : Nat} {w : World} {m : SM} {sv cv : Value} (h : w.heap[p]? = some (.cells (lineS m sv cv) 28 (0, 0))) :
    w.cell? ⟨p, 0, none⟩ = some (.int .i64 m.pc) ∧ w.cell? ⟨p, 1, none⟩ = some sv ∧ w.cell? ⟨p, 2, none⟩ = some cv ∧ w.cell? ⟨p, 3, none⟩ = some (.int .i64 m.sig) ∧ w.cell? ⟨p, 4, none⟩ = some (.int .i64 m.used) ∧ w.cell? ⟨p, 5, none⟩ = some (.int .i64 m.trap) ∧ w.cell? ⟨p, 6, none⟩ = some (.bool m.done) :=
  ⟨cell_of_row _ _ 0 _ _ _ h, cell_of_row _ _ 1 _ _ _ h, cell_of_row _ _ 2 _ _ _ h, cell_of_row _ _ 3 _ _ _ h, cell_of_row _ _ 4 _ _ _ h, cell_of_row _ _ 5 _ _ _ h, cell_of_row _ _ 6 _ _ _ h⟩
/-- a word is stored into a register -/
theorem MemO.reg {B p g n c k : Nat} {w : World} {cv : Value} {m : SM} (h : MemO B w p (.slice (some ⟨g, 0, none⟩) n c) cv m) (x : Int) : MemO B (w.setCell ⟨g, k, none⟩ (.int .i64 x)) p (.slice (some ⟨g, 0, none⟩) n c) cv { m with stk := m.stk.set k x } :=
  ⟨own_put h.ss x, own_other h.cs (fun j hj => heap_setCell_other _ _ _ _ (fun e => h.d3 g rfl (by rw [hj, e]))), h.pB, h.d1, h.d2, h.d3⟩
end Go.Proofs.Ytjofghelenfklaa
