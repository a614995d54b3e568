/-
  A StackResult whose block was made ahead of the call that fills it.
-/
import Derived.Test.YtcikofhbfncgdaaRgVar
import Derived.Test.YtcikofhbfncgdaaRgIRun1
import Derived.Test.YtcikofhbfncgdaaRgLw
import Derived.Test.YtcikofhbfncgdaaRgVar
namespace Go.Proofs.Ytcikofhbfncgdaa
open Go.RowKit
set_option linter.unusedVariables false

/-- what a run that has no code ends with -/
theorem run_propsG {zs ys : List Int} {b : Int} {R : SM} (h : RunRG zs ys b R) (h0 : runRC zs ys b = 0) : RGood R ∧ One R ∧ goes R = false ∧ R.used ≤ b ∧ R.cells.length = ys.length := by
  obtain ⟨h1, h2, h3, h4⟩ := runC_okG h0
  have hw := fault_good h1
  exact (h.1 h0).props h4 hw.1 hw.2 (startM_goodG h2) (fun e => by cases e) (.inl h3) h3
theorem run_smallG {zs ys : List Int} {b : Int} {R : SM} (h : RunRG zs ys b R) : R.stk.length ≤ 1000 ∧ R.cells.length ≤ 1000 := by
  by_cases h0 : runRC zs ys b = 0
  · have hg := (run_propsG h h0).1
    exact ⟨by have := hg.rl; omega, by have := hg.cl; omega⟩
  · rw [h.2 h0]
    exact ⟨by simp [zeroM], by simp [zeroM]⟩
theorem bel_trG {a b c : World} (h : Below a.heap.size a b) (hb : Below b.heap.size b c) : Below a.heap.size a c := h.trans (hb.mono h.size)
/-- the model's answer, the two copies -/
structure RunWG (w W : World) (zs ys : List Int) (C : Int) (M : SM) (B p x y : Nat) (a1 a2 : Option Addr) (c1 c2 : Nat) : Prop where
  v : Var8G W B p C M a1 a2 c1 c2
  xo : Own W x (.slice (some ⟨x, 0, none⟩) zs.length zs.length) zs
  yo : Own W y (.slice (some ⟨y, 0, none⟩) ys.length ys.length) ys
  b : Below w.heap.size w W
  l : w.heap.size ≤ p ∧ p < x ∧ x < y ∧ y < W.heap.size
theorem RunWG.below {w W W' : World} {zs ys : List Int} {C : Int} {M : SM} {B p x y : Nat} {a1 a2 : Option Addr} {c1 c2 : Nat} (h : RunWG w W zs ys C M B p x y a1 a2 c1 c2) (hb : Below W.heap.size W W') : RunWG w W' zs ys C M B p x y a1 a2 c1 c2 :=
  ⟨h.v.below hb, own_kept h.xo hb, own_kept h.yo hb, bel_trG h.b hb, by have := h.l; have := hb.size; omega⟩
/-- both answers -/
structure RunZG (w W : World) (C : Int) (M : SM) (B p D q : Nat) (a1 a2 b1 b2 : Option Addr) (c1 c2 d1 d2 : Nat) : Prop where
  v : Var8G W B p C M a1 a2 c1 c2
  u : Var8G W D q C M b1 b2 d1 d2
  b : Below w.heap.size w W
  l : w.heap.size ≤ p ∧ p < D ∧ D ≤ q ∧ q < W.heap.size
theorem RunZG.below {w W W' : World} {C : Int} {M : SM} {B p D q : Nat} {a1 a2 b1 b2 : Option Addr} {c1 c2 d1 d2 : Nat} (h : RunZG w W C M B p D q a1 a2 b1 b2 c1 c2 d1 d2) (hb : Below W.heap.size W W') : RunZG w W' C M B p D q a1 a2 b1 b2 c1 c2 d1 d2 :=
  ⟨h.v.below hb, h.u.below hb, bel_trG h.b hb, by have := h.l; have := hb.size; omega⟩
/-- what a store into one block x leaves of both -/
theorem RunZG.but {w W W' : World} {C : Int} {M : SM} {B p D q : Nat} {a1 a2 b1 b2 : Option Addr} {c1 c2 d1 d2 : Nat} (h : RunZG w W C M B p D q a1 a2 b1 b2 c1 c2 d1 d2) (x : Nat) (hx : p < x ∧ x < D) (hb : Below x W W') (hs : W'.heap.size = W.heap.size) (ho : ∀ g, g ≠ x → W'.heap[g]? = W.heap[g]?) : RunZG w W' C M B p D q a1 a2 b1 b2 c1 c2 d1 d2 :=
  ⟨h.v.keep (ho _ (by omega)) (fun g hg => ho g (by have := h.v.b1 g hg; omega)) (fun g hg => ho g (by have := h.v.b2 g hg; omega)),
   h.u.keep (ho _ (by have := h.l; omega)) (fun g hg => ho g (by have := h.u.b1 g hg; omega)) (fun g hg => ho g (by have := h.u.b2 g hg; omega)),
   h.b.trans (hb.mono (by have := h.l; omega)), by rw [hs]; exact h.l⟩
/-- behind the answer's own marks -/
structure RunNG (w W : World) (C : Int) (M : SM) (B p q : Nat) (a1 a2 b1 b2 : Option Addr) (c1 c2 d1 d2 : Nat) : Prop where
  v : Var8G W B p C M a1 a2 c1 c2
  u : W.heap[q]? = some (.cells (line8 C M (.slice b1 M.stk.length d1) (.slice b2 M.cells.length d2)) 30 (0, 0))
  n1 : Nums W b1 (marks 1 M.stk.length)
  n2 : Nums W b2 (marks (1 + M.stk.length) M.cells.length)
  b : Below w.heap.size w W
theorem RunNG.below {w W W' : World} {C : Int} {M : SM} {B p q : Nat} {a1 a2 b1 b2 : Option Addr} {c1 c2 d1 d2 : Nat} (h : RunNG w W C M B p q a1 a2 b1 b2 c1 c2 d1 d2) (hb : Below W.heap.size W W') : RunNG w W' C M B p q a1 a2 b1 b2 c1 c2 d1 d2 :=
  ⟨h.v.below hb, blk8 h.u hb, h.n1.below hb, h.n2.below hb, bel_trG h.b hb⟩
theorem RunZG.marked {w W W' : World} {C : Int} {M : SM} {B p D q : Nat} {a1 a2 b1 b2 : Option Addr} {c1 c2 d1 d2 : Nat} (h : RunZG w W C M B p D q a1 a2 b1 b2 c1 c2 d1 d2) (hm : Marked D W W' 1 b1 b2 M.stk.length M.cells.length) : RunNG w W' C M B p q a1 a2 b1 b2 c1 c2 d1 d2 := by
  obtain ⟨n1, n2, hb, hz, hoth⟩ := hm
  have HO : ∀ g, g < W.heap.size → (g < D ∨ q ≤ g) → W'.heap[g]? = W.heap[g]? := fun g hg k => hoth g hg (fun e => by have := h.u.b1 g e; omega) (fun e => by have := h.u.b2 g e; omega)
  have hl := h.l
  exact ⟨h.v.keep (HO _ (by omega) (by omega)) (fun g hg => HO g (by have := h.v.b1 g hg; omega) (by have := h.v.b1 g hg; omega)) (fun g hg => HO g (by have := h.v.b2 g hg; omega) (by have := h.v.b2 g hg; omega)),
    (HO _ (by omega) (by omega)).trans h.u.row, n1, n2, h.b.trans (hb.mono (by omega))⟩
end Go.Proofs.Ytcikofhbfncgdaa
namespace Go.Proofs.Ytcikofhbfncgdaa
open Go.RowKit
set_option linter.unusedVariables false

structure Var8 (W : World) (B p : Nat) (C : Int) (M : SM) (a1 a2 : Option Addr) (c1 c2 : Nat) : Prop where
  row : W.heap[p]? = some (.cells (line8 C M (.slice a1 M.stk.length c1) (.slice a2 M.cells.length c2)) 41 (0, 0))
  s : Own W B (.slice a1 M.stk.length c1) M.stk
  c : Own W B (.slice a2 M.cells.length c2) M.cells
  d : ∀ g, a1 = some ⟨g, 0, none⟩ → a2 ≠ some ⟨g, 0, none⟩
  b1 : ∀ g, a1 = some ⟨g, 0, none⟩ → B ≤ g ∧ g < p
  b2 : ∀ g, a2 = some ⟨g, 0, none⟩ → B ≤ g ∧ g < p
theorem Var8.lt {W : World} {B p : Nat} {C : Int} {M : SM} {a1 a2 : Option Addr} {c1 c2 : Nat} (h : Var8 W B p C M a1 a2 c1 c2) : p < W.heap.size := (Array.getElem?_eq_some_iff.1 h.row).1
theorem Var8.keep {W W' : World} {B p : Nat} {C : Int} {M : SM} {a1 a2 : Option Addr} {c1 c2 : Nat} (h : Var8 W B p C M a1 a2 c1 c2) (hp : W'.heap[p]? = W.heap[p]?) (h1 : ∀ g, a1 = some ⟨g, 0, none⟩ → W'.heap[g]? = W.heap[g]?) (h2 : ∀ g, a2 = some ⟨g, 0, none⟩ → W'.heap[g]? = W.heap[g]?) : Var8 W' B p C M a1 a2 c1 c2 :=
  ⟨hp.trans h.row, own_other h.s (fun g hg => h1 g (own_at h.s hg)), own_other h.c (fun g hg => h2 g (own_at h.c hg)), h.d, h.b1, h.b2⟩
theorem Var8.below {W W' : World} {B p : Nat} {C : Int} {M : SM} {a1 a2 : Option Addr} {c1 c2 : Nat} (h : Var8 W B p C M a1 a2 c1 c2) (hb : Below W.heap.size W W') : Var8 W' B p C M a1 a2 c1 c2 :=
  h.keep (hb.block p h.lt) (fun g hg => hb.block g (own_lt h.s hg).2) (fun g hg => hb.block g (own_lt h.c hg).2)
theorem Var8.rows {W : World} {B p : Nat} {C : Int} {M : SM} {a1 a2 : Option Addr} {c1 c2 : Nat} (h : Var8 W B p C M a1 a2 c1 c2) : RowV W (.slice a1 M.stk.length c1) M.stk ∧ RowV W (.slice a2 M.cells.length c2) M.cells := ⟨own_row h.s, own_row h.c⟩
/-- what a call that made a StackResult answers, with its rows as slices -/
def ResS (w w' : World) (e : Ending) (C : Int) (M : SM) : Prop := ∃ a1 a2 c1 c2, e = .returned (resV C M (.slice a1 M.stk.length c1) (.slice a2 M.cells.length c2)) ∧ Below w.heap.size w w' ∧ Var8 (w'.alloc (.cells (line8 C M (.slice a1 M.stk.length c1) (.slice a2 M.cells.length c2)) 41)) w.heap.size w'.heap.size C M a1 a2 c1 c2
theorem ResR.s {w w' : World} {e : Ending} {C : Int} {M : SM} (h : ResR w w' e C M) : ResS w w' e C M := by
  obtain ⟨sv, cv, rfl, hs, hc, hd, hb⟩ := h
  obtain ⟨a1, c1, rfl⟩ := own_shape hs
  obtain ⟨a2, c2, rfl⟩ := own_shape hc
  exact ⟨a1, a2, c1, c2, rfl, hb, heap_alloc_new _ _, own_kept hs ((Below.refl _ _).alloc (Nat.le_refl _) _), own_kept hc ((Below.refl _ _).alloc (Nat.le_refl _) _),
    fun g h1 h2 => hd g (by rw [h1]; rfl) (by rw [h2]; rfl), fun g hg => own_lt hs hg, fun g hg => own_lt hc hg⟩
end Go.Proofs.Ytcikofhbfncgdaa
namespace Go.Proofs.Ytcikofhbfncgdaa
open Go.RowKit
set_option linter.unusedVariables false

structure VarE (W : World) (B E p : Nat) (C : Int) (M : SM) (a1 a2 : Option Addr) (c1 c2 : Nat) : Prop where
  row : W.heap[p]? = some (.cells (line8 C M (.slice a1 M.stk.length c1) (.slice a2 M.cells.length c2)) 41 (0, 0))
  s : Own W B (.slice a1 M.stk.length c1) M.stk
  c : Own W B (.slice a2 M.cells.length c2) M.cells
  d : ∀ g, a1 = some ⟨g, 0, none⟩ → a2 ≠ some ⟨g, 0, none⟩
  b1 : ∀ g, a1 = some ⟨g, 0, none⟩ → B ≤ g ∧ g < E ∧ g ≠ p
  b2 : ∀ g, a2 = some ⟨g, 0, none⟩ → B ≤ g ∧ g < E ∧ g ≠ p
  pE : p < E
theorem VarE.lt {W : World} {B E p : Nat} {C : Int} {M : SM} {a1 a2 : Option Addr} {c1 c2 : Nat} (h : VarE W B E p C M a1 a2 c1 c2) : p < W.heap.size := (Array.getElem?_eq_some_iff.1 h.row).1
theorem VarE.keep {W W' : World} {B E p : Nat} {C : Int} {M : SM} {a1 a2 : Option Addr} {c1 c2 : Nat} (h : VarE W B E p C M a1 a2 c1 c2) (hp : W'.heap[p]? = W.heap[p]?) (h1 : ∀ g, a1 = some ⟨g, 0, none⟩ → W'.heap[g]? = W.heap[g]?) (h2 : ∀ g, a2 = some ⟨g, 0, none⟩ → W'.heap[g]? = W.heap[g]?) : VarE W' B E p C M a1 a2 c1 c2 :=
  ⟨hp.trans h.row, own_other h.s (fun g hg => h1 g (own_at h.s hg)), own_other h.c (fun g hg => h2 g (own_at h.c hg)), h.d, h.b1, h.b2, h.pE⟩
theorem VarE.below {W W' : World} {B E p : Nat} {C : Int} {M : SM} {a1 a2 : Option Addr} {c1 c2 : Nat} (h : VarE W B E p C M a1 a2 c1 c2) (hb : Below W.heap.size W W') : VarE W' B E p C M a1 a2 c1 c2 :=
  h.keep (hb.block p h.lt) (fun g hg => hb.block g (own_lt h.s hg).2) (fun g hg => hb.block g (own_lt h.c hg).2)
theorem VarE.rows {W : World} {B E p : Nat} {C : Int} {M : SM} {a1 a2 : Option Addr} {c1 c2 : Nat} (h : VarE W B E p C M a1 a2 c1 c2) : RowV W (.slice a1 M.stk.length c1) M.stk ∧ RowV W (.slice a2 M.cells.length c2) M.cells := ⟨own_row h.s, own_row h.c⟩
theorem Var8.e {W : World} {B p : Nat} {C : Int} {M : SM} {a1 a2 : Option Addr} {c1 c2 : Nat} (h : Var8 W B p C M a1 a2 c1 c2) : VarE W B (p + 1) p C M a1 a2 c1 c2 :=
  ⟨h.row, h.s, h.c, h.d, fun g hg => by have := h.b1 g hg; omega, fun g hg => by have := h.b2 g hg; omega, by omega⟩
abbrev fillW (W : World) (p : Nat) (C : Int) (M : SM) (s c : Value) : World := ((((((((W.setCell ⟨p, 0, none⟩ (.int .i64 C)).setCell ⟨p, 1, none⟩ (.int .i64 M.pc)).setCell ⟨p, 2, none⟩ s).setCell ⟨p, 3, none⟩ c).setCell ⟨p, 4, none⟩ (.int .i64 M.sig)).setCell ⟨p, 5, none⟩ (.int .i64 M.used)).setCell ⟨p, 6, none⟩ (.int .i64 M.trap)).setCell ⟨p, 7, none⟩ (.bool M.done))
/-- what a call that made a StackResult answers where the block is there already -/
def ResE (w W : World) (e : Ending) (C : Int) (M : SM) : Prop := ∃ a1 a2 c1 c2, e = .returned (resV C M (.slice a1 M.stk.length c1) (.slice a2 M.cells.length c2)) ∧ W.heap[w.heap.size]? = some (.cells zero8 41 (0, 0)) ∧ Below w.heap.size w W ∧
  VarE (fillW W w.heap.size C M (.slice a1 M.stk.length c1) (.slice a2 M.cells.length c2)) (w.heap.size + 1) W.heap.size w.heap.size C M a1 a2 c1 c2 ∧ Below w.heap.size w (fillW W w.heap.size C M (.slice a1 M.stk.length c1) (.slice a2 M.cells.length c2))
theorem ResR.e {w W : World} {e : Ending} {C : Int} {M : SM} (h : ResR (w.alloc (.cells zero8 41)) W e C M) : ResE w W e C M := by
  obtain ⟨sv, cv, rfl, hs, hc, hd, hb⟩ := h
  obtain ⟨a1, c1, rfl⟩ := own_shape hs
  obtain ⟨a2, c2, rfl⟩ := own_shape hc
  have hz : (w.alloc (.cells zero8 41)).heap.size = w.heap.size + 1 := by simp
  have hrow := blk8 (heap_alloc_new w (.cells zero8 41)) hb
  have hB : Below w.heap.size w W := ((Below.refl w.heap.size w).alloc (Nat.le_refl _) _).trans (hb.mono (by omega))
  have hE := fill8 w.heap.size W (.int .i64 C) (.int .i64 M.pc) (.slice a1 M.stk.length c1) (.slice a2 M.cells.length c2) (.int .i64 M.sig) (.int .i64 M.used) (.int .i64 M.trap) (.bool M.done)
  rw [hz] at hs hc
  have n1 : ∀ g, a1 = some ⟨g, 0, none⟩ → w.heap.size + 1 ≤ g ∧ g < W.heap.size := fun g hg => own_lt hs hg
  have n2 : ∀ g, a2 = some ⟨g, 0, none⟩ → w.heap.size + 1 ≤ g ∧ g < W.heap.size := fun g hg => own_lt hc hg
  have hO := heap_setCell_same _ w.heap.size 7 _ _ (.bool M.done) (heap_setCell_same _ w.heap.size 6 _ _ (.int .i64 M.trap) (heap_setCell_same _ w.heap.size 5 _ _ (.int .i64 M.used) (heap_setCell_same _ w.heap.size 4 _ _ (.int .i64 M.sig) (heap_setCell_same _ w.heap.size 3 _ _ (.slice a2 M.cells.length c2) (heap_setCell_same _ w.heap.size 2 _ _ (.slice a1 M.stk.length c1) (heap_setCell_same _ w.heap.size 1 _ _ (.int .i64 M.pc) (heap_setCell_same W w.heap.size 0 _ _ (.int .i64 C) hrow)))))))
  simp at hO
  exact ⟨a1, a2, c1, c2, rfl, hrow, hB, ⟨hO, own_sole hs hE (fun e => by have := (hs.lt _ e).1; omega), own_sole hc hE (fun e => by have := (hc.lt _ e).1; omega),
    fun g h1 h2 => hd g (by rw [h1]; rfl) (by rw [h2]; rfl), fun g hg => by have := n1 g hg; omega, fun g hg => by have := n2 g hg; omega, (Array.getElem?_eq_some_iff.1 hrow).1⟩, hB.trans hE.bel⟩
/-- the same where the block is made behind the call and filled then -/
def ResQ (w W : World) (e : Ending) (C : Int) (M : SM) : Prop := ∃ a1 a2 c1 c2, e = .returned (resV C M (.slice a1 M.stk.length c1) (.slice a2 M.cells.length c2)) ∧ Below w.heap.size w W ∧
  VarE (fillW (W.alloc (.cells zero8 41)) W.heap.size C M (.slice a1 M.stk.length c1) (.slice a2 M.cells.length c2)) w.heap.size (W.heap.size + 1) W.heap.size C M a1 a2 c1 c2 ∧ Below w.heap.size w (fillW (W.alloc (.cells zero8 41)) W.heap.size C M (.slice a1 M.stk.length c1) (.slice a2 M.cells.length c2))
set_option maxHeartbeats 800000 in
theorem ResR.q {w W : World} {e : Ending} {C : Int} {M : SM} (h : ResR w W e C M) : ResQ w W e C M := by
  obtain ⟨sv, cv, rfl, hs, hc, hd, hb⟩ := h
  obtain ⟨a1, c1, rfl⟩ := own_shape hs
  obtain ⟨a2, c2, rfl⟩ := own_shape hc
  unfold ResQ
  have hz : (W.alloc (.cells zero8 41)).heap.size = W.heap.size + 1 := by simp
  have hrow := heap_alloc_new W (.cells zero8 41)
  have hbW : Below W.heap.size W (W.alloc (.cells zero8 41)) := (Below.refl _ _).alloc (Nat.le_refl _) _
  have n1 : ∀ g, a1 = some ⟨g, 0, none⟩ → w.heap.size ≤ g ∧ g < W.heap.size := fun g hg => own_lt hs hg
  have n2 : ∀ g, a2 = some ⟨g, 0, none⟩ → w.heap.size ≤ g ∧ g < W.heap.size := fun g hg => own_lt hc hg
  generalize W.alloc (.cells zero8 41) = Z at *
  have hs := own_kept hs hbW
  have hc := own_kept hc hbW
  have hE := fill8 W.heap.size Z (.int .i64 C) (.int .i64 M.pc) (.slice a1 M.stk.length c1) (.slice a2 M.cells.length c2) (.int .i64 M.sig) (.int .i64 M.used) (.int .i64 M.trap) (.bool M.done)
  have hO := heap_setCell_same _ W.heap.size 7 _ _ (.bool M.done) (heap_setCell_same _ W.heap.size 6 _ _ (.int .i64 M.trap) (heap_setCell_same _ W.heap.size 5 _ _ (.int .i64 M.used) (heap_setCell_same _ W.heap.size 4 _ _ (.int .i64 M.sig) (heap_setCell_same _ W.heap.size 3 _ _ (.slice a2 M.cells.length c2) (heap_setCell_same _ W.heap.size 2 _ _ (.slice a1 M.stk.length c1) (heap_setCell_same _ W.heap.size 1 _ _ (.int .i64 M.pc) (heap_setCell_same Z W.heap.size 0 _ _ (.int .i64 C) hrow)))))))
  simp at hO
  have hl1 : ∀ g, (Value.slice a1 M.stk.length c1).ownBlock = some g → g ≠ W.heap.size := fun g e => by have := n1 g (own_at hs e); omega
  have hl2 : ∀ g, (Value.slice a2 M.cells.length c2).ownBlock = some g → g ≠ W.heap.size := fun g e => by have := n2 g (own_at hc e); omega
  refine ⟨a1, a2, c1, c2, rfl, hb, ⟨hO, own_sole hs hE (fun e => hl1 _ e rfl), own_sole hc hE (fun e => hl2 _ e rfl),
    fun g h1 h2 => hd g (by rw [h1]; rfl) (by rw [h2]; rfl), fun g hg => by have := n1 g hg; omega, fun g hg => by have := n2 g hg; omega, by omega⟩, (hb.trans (hbW.mono hb.size)).trans (hE.bel.mono hb.size)⟩
/-- the same where the block p was there ahead of the call -/
def ResG (p : Nat) (w W : World) (e : Ending) (C : Int) (M : SM) : Prop := ∃ a1 a2 c1 c2, e = .returned (resV C M (.slice a1 M.stk.length c1) (.slice a2 M.cells.length c2)) ∧ W.heap[p]? = some (.cells zero8 41 (0, 0)) ∧ Below w.heap.size w W ∧
  VarE (fillW W p C M (.slice a1 M.stk.length c1) (.slice a2 M.cells.length c2)) w.heap.size W.heap.size p C M a1 a2 c1 c2 ∧ Below p W (fillW W p C M (.slice a1 M.stk.length c1) (.slice a2 M.cells.length c2))
set_option maxHeartbeats 800000 in
theorem ResR.g {p : Nat} {w W : World} {e : Ending} {C : Int} {M : SM} (h : ResR w W e C M) (hp : w.heap[p]? = some (.cells zero8 41 (0, 0))) : ResG p w W e C M := by
  obtain ⟨sv, cv, rfl, hs, hc, hd, hb⟩ := h
  obtain ⟨a1, c1, rfl⟩ := own_shape hs
  obtain ⟨a2, c2, rfl⟩ := own_shape hc
  have hpl := (Array.getElem?_eq_some_iff.1 hp).1
  have hrow := blk8 hp hb
  have hE := fill8 p W (.int .i64 C) (.int .i64 M.pc) (.slice a1 M.stk.length c1) (.slice a2 M.cells.length c2) (.int .i64 M.sig) (.int .i64 M.used) (.int .i64 M.trap) (.bool M.done)
  have n1 : ∀ g, a1 = some ⟨g, 0, none⟩ → w.heap.size ≤ g ∧ g < W.heap.size := fun g hg => own_lt hs hg
  have n2 : ∀ g, a2 = some ⟨g, 0, none⟩ → w.heap.size ≤ g ∧ g < W.heap.size := fun g hg => own_lt hc hg
  have hO := heap_setCell_same _ p 7 _ _ (.bool M.done) (heap_setCell_same _ p 6 _ _ (.int .i64 M.trap) (heap_setCell_same _ p 5 _ _ (.int .i64 M.used) (heap_setCell_same _ p 4 _ _ (.int .i64 M.sig) (heap_setCell_same _ p 3 _ _ (.slice a2 M.cells.length c2) (heap_setCell_same _ p 2 _ _ (.slice a1 M.stk.length c1) (heap_setCell_same _ p 1 _ _ (.int .i64 M.pc) (heap_setCell_same W p 0 _ _ (.int .i64 C) hrow)))))))
  simp at hO
  exact ⟨a1, a2, c1, c2, rfl, hrow, hb, ⟨hO, own_sole hs hE (fun e => by have := (hs.lt _ e).1; omega), own_sole hc hE (fun e => by have := (hc.lt _ e).1; omega),
    fun g h1 h2 => hd g (by rw [h1]; rfl) (by rw [h2]; rfl), fun g hg => by have := n1 g hg; omega, fun g hg => by have := n2 g hg; omega, by have := hb.size; omega⟩, hE.bel⟩
end Go.Proofs.Ytcikofhbfncgdaa
