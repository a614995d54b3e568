/-
  A StackResult in its block with its two rows of its own; what the laws of StackResults share.
-/
import Derived.Test.YtlofagpffeaebaaStkRes
namespace Go.Proofs.Ytlofagpffeaebaa
open Go.RowKit
set_option linter.unusedVariables false

structure Var8 (W : World) (B p : Nat) (C : Int) (M : SM) (a1 a2 : Option Addr) (c1 c2 : Nat) : Prop where
  row : W.heap[p]? = some (.cells (line8 C M (.slice a1 M.stk.length c1) (.slice a2 M.cells.length c2)) 46 (0, 0))
  s : Own W B (.slice a1 M.stk.length c1) M.stk
  c : Own W B (.slice a2 M.cells.length c2) M.cells
  d : ∀ g, a1 = some ⟨g, 0, none⟩ → a2 ≠ some ⟨g, 0, none⟩
  b1 : ∀ g, a1 = some ⟨g, 0, none⟩ → B ≤ g ∧ g < p
  b2 : ∀ g, a2 = some ⟨g, 0, none⟩ → B ≤ g ∧ g < p
theorem Var8.lt {W : World} {B p : Nat} {C : Int} {M : SM} {a1 a2 : Option Addr} {c1 c2 : Nat} (h : Var8 W B p C M a1 a2 c1 c2) : p < W.heap.size := (Array.getElem?_eq_some_iff.1 h.row).1
theorem Var8.keep {W W' : World} {B p : Nat} {C : Int} {M : SM} {a1 a2 : Option Addr} {c1 c2 : Nat} (h : Var8 W B p C M a1 a2 c1 c2) (hp : W'.heap[p]? = W.heap[p]?) (h1 : ∀ g, a1 = some ⟨g, 0, none⟩ → W'.heap[g]? = W.heap[g]?) (h2 : ∀ g, a2 = some ⟨g, 0, none⟩ → W'.heap[g]? = W.heap[g]?) : Var8 W' B p C M a1 a2 c1 c2 :=
  ⟨hp.trans h.row, own_other h.s (fun g hg => h1 g (own_at h.s hg)), own_other h.c (fun g hg => h2 g (own_at h.c hg)), h.d, h.b1, h.b2⟩
theorem Var8.below {W W' : World} {B p : Nat} {C : Int} {M : SM} {a1 a2 : Option Addr} {c1 c2 : Nat} (h : Var8 W B p C M a1 a2 c1 c2) (hb : Below W.heap.size W W') : Var8 W' B p C M a1 a2 c1 c2 :=
  h.keep (hb.block p h.lt) (fun g hg => hb.block g (own_lt h.s hg).2) (fun g hg => hb.block g (own_lt h.c hg).2)
theorem Var8.rows {W : World} {B p : Nat} {C : Int} {M : SM} {a1 a2 : Option Addr} {c1 c2 : Nat} (h : Var8 W B p C M a1 a2 c1 c2) : RowV W (.slice a1 M.stk.length c1) M.stk ∧ RowV W (.slice a2 M.cells.length c2) M.cells := ⟨own_row h.s, own_row h.c⟩
/-- what a call that made a StackResult answers, with its rows as slices -/
def ResS (w w' : World) (e : Ending) (C : Int) (M : SM) : Prop := ∃ a1 a2 c1 c2, e = .returned (resV C M (.slice a1 M.stk.length c1) (.slice a2 M.cells.length c2)) ∧ Below w.heap.size w w' ∧ Var8 (w'.alloc (.cells (line8 C M (.slice a1 M.stk.length c1) (.slice a2 M.cells.length c2)) 46)) w.heap.size w'.heap.size C M a1 a2 c1 c2
theorem ResR.s {w w' : World} {e : Ending} {C : Int} {M : SM} (h : ResR w w' e C M) : ResS w w' e C M := by
  obtain ⟨sv, cv, rfl, hs, hc, hd, hb⟩ := h
  obtain ⟨a1, c1, rfl⟩ := own_shape hs
  obtain ⟨a2, c2, rfl⟩ := own_shape hc
  exact ⟨a1, a2, c1, c2, rfl, hb, heap_alloc_new _ _, own_kept hs ((Below.refl _ _).alloc (Nat.le_refl _) _), own_kept hc ((Below.refl _ _).alloc (Nat.le_refl _) _),
    fun g h1 h2 => hd g (by rw [h1]; rfl) (by rw [h2]; rfl), fun g hg => own_lt hs hg, fun g hg => own_lt hc hg⟩
end Go.Proofs.Ytlofagpffeaebaa
