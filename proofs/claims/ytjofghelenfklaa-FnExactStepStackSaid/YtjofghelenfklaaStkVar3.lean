/-
  What the law of StepStack shares: three calls within a region that draws; a machine in its block.
-/
import Derived.Test.YtjofghelenfklaaStkVar2
namespace Go.Proofs.Ytjofghelenfklaa
open Go.RowKit
set_option linter.unusedVariables false

theorem step_below {a b c : World} (h : Below a.heap.size a b) (hb : Below b.heap.size b c) : Below a.heap.size a c := h.trans (hb.mono h.size)
theorem al_drew (w : World) (o : Obj) : ((w.alloc o).drew).heap[w.heap.size]? = some o := heap_alloc_new w o
theorem below_al {a b : World} {o : Obj} (h : Below a.heap.size a b) : Below a.heap.size a (b.alloc o) := h.alloc h.size o
/-- what three calls make: a row's copy, a machine's copy, a StackResult -/
structure Trio (fT fM fS : Nat) (w1 : World) (cd : Value) (mv : Value) (zs : List Int) (m1 : SM) (C : Int) (M : SM) : Prop where
  t : ∀ W, Below w1.heap.size w1 W → Calls Try.prog fT #[cd] W fun e w' => ∃ g, e = .returned (.slice (some ⟨g, 0, none⟩) zs.length zs.length) ∧ Nums w' (some ⟨g, 0, none⟩) zs ∧ g < w'.heap.size ∧ Below W.heap.size W w'
  m : ∀ W, Below w1.heap.size w1 W → Calls Try.prog fM #[mv] W fun e w' => ∃ sv cv, e = .returned (machL m1 sv cv) ∧ RowV w' sv m1.stk ∧ RowV w' cv m1.cells ∧ Below W.heap.size W w'
  g : ∀ (p g : Nat) (sv cv : Value) W, W.heap[p]? = some (.cells zero8 41 (0, 0)) → Nums W (some ⟨g, 0, none⟩) zs → g < W.heap.size → RowV W sv m1.stk → RowV W cv m1.cells → Calls Try.prog fS #[.slice (some ⟨g, 0, none⟩) zs.length zs.length, machL m1 sv cv] W fun e w' => ResG p W w' e C M
  q : ∀ (g : Nat) (sv cv : Value) W, Nums W (some ⟨g, 0, none⟩) zs → g < W.heap.size → RowV W sv m1.stk → RowV W cv m1.cells → Calls Try.prog fS #[.slice (some ⟨g, 0, none⟩) zs.length zs.length, machL m1 sv cv] W fun e w' => ResS W w' e C M

/-- a machine in its block with two rows of its own -/
structure VarM (W : World) (B p : Nat) (m : SM) (a1 a2 : Option Addr) (c1 c2 : Nat) : Prop where
  row : W.heap[p]? = some (.cells (lineL m (.slice a1 m.stk.length c1) (.slice a2 m.cells.length c2)) 39 (0, 0))
  s : Own W B (.slice a1 m.stk.length c1) m.stk
  c : Own W B (.slice a2 m.cells.length c2) m.cells
  d : ∀ g, a1 = some ⟨g, 0, none⟩ → a2 ≠ some ⟨g, 0, none⟩
  b1 : ∀ g, a1 = some ⟨g, 0, none⟩ → B ≤ g ∧ g < p
  b2 : ∀ g, a2 = some ⟨g, 0, none⟩ → B ≤ g ∧ g < p
theorem VarM.lt {W : World} {B p : Nat} {m : SM} {a1 a2 : Option Addr} {c1 c2 : Nat} (h : VarM W B p m a1 a2 c1 c2) : p < W.heap.size := (Array.getElem?_eq_some_iff.1 h.row).1
theorem VarM.below {W W' : World} {B p : Nat} {m : SM} {a1 a2 : Option Addr} {c1 c2 : Nat} (h : VarM W B p m a1 a2 c1 c2) (hb : Below W.heap.size W W') : VarM W' B p m a1 a2 c1 c2 :=
  ⟨blk8 h.row hb, own_kept h.s hb, own_kept h.c hb, h.d, h.b1, h.b2⟩
theorem VarM.keep {W W' : World} {B p : Nat} {m : SM} {a1 a2 : Option Addr} {c1 c2 : Nat} (h : VarM W B p m a1 a2 c1 c2) (hp : W'.heap[p]? = W.heap[p]?) (h1 : ∀ g, B ≤ g → g < p → W'.heap[g]? = W.heap[g]?) : VarM W' B p m a1 a2 c1 c2 :=
  ⟨hp.trans h.row, own_other h.s (fun g hg => have k := h.b1 g (own_at h.s hg); h1 g k.1 k.2), own_other h.c (fun g hg => have k := h.b2 g (own_at h.c hg); h1 g k.1 k.2), h.d, h.b1, h.b2⟩
theorem VarE.keepE {W W' : World} {B E p : Nat} {C : Int} {M : SM} {a1 a2 : Option Addr} {c1 c2 : Nat} (h : VarE W B E p C M a1 a2 c1 c2) (h1 : ∀ g, g < E → W'.heap[g]? = W.heap[g]?) : VarE W' B E p C M a1 a2 c1 c2 :=
  h.keep (h1 p h.pE) (fun g hg => h1 g (h.b1 g hg).2.1) (fun g hg => h1 g (h.b2 g hg).2.1)
/-- the law's memory behind the first call: the argument's block, the model's answer, the two copies -/
structure StepW (w W : World) (L : Array Value) (zs : List Int) (m1 : SM) (C : Int) (M : SM) (B E p x D y : Nat) (b1 b2 s1 s2 : Option Addr) (d1 d2 t1 t2 : Nat) : Prop where
  a : W.heap[w.heap.size]? = some (.cells L 67 (0, 0))
  v : VarE W B E p C M b1 b2 d1 d2
  xo : Own W x (.slice (some ⟨x, 0, none⟩) zs.length zs.length) zs
  mo : VarM W D y m1 s1 s2 t1 t2
  b : Below w.heap.size w W
  l : w.heap.size < E ∧ E ≤ x ∧ x < D ∧ D ≤ y ∧ y < W.heap.size
theorem StepW.below {w W W' : World} {L : Array Value} {zs : List Int} {m1 : SM} {C : Int} {M : SM} {B E p x D y : Nat} {b1 b2 s1 s2 : Option Addr} {d1 d2 t1 t2 : Nat} (h : StepW w W L zs m1 C M B E p x D y b1 b2 s1 s2 d1 d2 t1 t2) (hb : Below W.heap.size W W') : StepW w W' L zs m1 C M B E p x D y b1 b2 s1 s2 d1 d2 t1 t2 :=
  ⟨blk8 h.a hb, h.v.below hb, own_kept h.xo hb, h.mo.below hb, h.b.trans (hb.mono h.b.size), by have := h.l; have := hb.size; omega⟩
/-- behind the marks: the argument's block, both answers -/
structure StepZ (w W : World) (L : Array Value) (C : Int) (M : SM) (B E p D q : Nat) (b1 b2 f1 f2 : Option Addr) (d1 d2 i1 i2 : Nat) : Prop where
  a : W.heap[w.heap.size]? = some (.cells L 67 (0, 0))
  v : VarE W B E p C M b1 b2 d1 d2
  u : Var8 W D q C M f1 f2 i1 i2
  b : Below w.heap.size w W
  l : w.heap.size < E ∧ E ≤ D ∧ D ≤ q ∧ q < W.heap.size
theorem StepZ.below {w W W' : World} {L : Array Value} {C : Int} {M : SM} {B E p D q : Nat} {b1 b2 f1 f2 : Option Addr} {d1 d2 i1 i2 : Nat} (h : StepZ w W L C M B E p D q b1 b2 f1 f2 d1 d2 i1 i2) (hb : Below W.heap.size W W') : StepZ w W' L C M B E p D q b1 b2 f1 f2 d1 d2 i1 i2 :=
  ⟨blk8 h.a hb, h.v.below hb, h.u.below hb, h.b.trans (hb.mono h.b.size), by have := h.l; have := hb.size; omega⟩
/-- behind the answer's own marks -/
structure StepN (w W : World) (L : Array Value) (C : Int) (M : SM) (B E p q : Nat) (b1 b2 f1 f2 : Option Addr) (d1 d2 i1 i2 : Nat) : Prop where
  a : W.heap[w.heap.size]? = some (.cells L 67 (0, 0))
  v : VarE W B E p C M b1 b2 d1 d2
  u : W.heap[q]? = some (.cells (line8 C M (.slice f1 M.stk.length i1) (.slice f2 M.cells.length i2)) 41 (0, 0))
  n1 : Nums W f1 (marks 1 M.stk.length)
  n2 : Nums W f2 (marks (1 + M.stk.length) M.cells.length)
  b : Below w.heap.size w W
theorem StepN.below {w W W' : World} {L : Array Value} {C : Int} {M : SM} {B E p q : Nat} {b1 b2 f1 f2 : Option Addr} {d1 d2 i1 i2 : Nat} (h : StepN w W L C M B E p q b1 b2 f1 f2 d1 d2 i1 i2) (hb : Below W.heap.size W W') : StepN w W' L C M B E p q b1 b2 f1 f2 d1 d2 i1 i2 :=
  ⟨blk8 h.a hb, h.v.below hb, blk8 h.u hb, h.n1.below hb, h.n2.below hb, h.b.trans (hb.mono h.b.size)⟩
end Go.Proofs.Ytjofghelenfklaa
