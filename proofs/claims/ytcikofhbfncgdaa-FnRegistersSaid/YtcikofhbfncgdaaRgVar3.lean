/-
  What the law of StepRegs shares: three calls within a region that draws; a machine in its block.
-/
import Derived.Test.YtcikofhbfncgdaaRgVar
import Derived.Test.YtcikofhbfncgdaaStkVar2
namespace Go.Proofs.Ytcikofhbfncgdaa
open Go.RowKit
set_option linter.unusedVariables false

structure VarEG (W : World) (B E p : Nat) (C : Int) (M : SM) (a1 a2 : Option Addr) (c1 c2 : Nat) : Prop where
  row : W.heap[p]? = some (.cells (line8 C M (.slice a1 M.stk.length c1) (.slice a2 M.cells.length c2)) 30 (0, 0))
  s : Own W B (.slice a1 M.stk.length c1) M.stk
  c : Own W B (.slice a2 M.cells.length c2) M.cells
  d : ∀ g, a1 = some ⟨g, 0, none⟩ → a2 ≠ some ⟨g, 0, none⟩
  b1 : ∀ g, a1 = some ⟨g, 0, none⟩ → B ≤ g ∧ g < E ∧ g ≠ p
  b2 : ∀ g, a2 = some ⟨g, 0, none⟩ → B ≤ g ∧ g < E ∧ g ≠ p
  pE : p < E
theorem VarEG.lt {W : World} {B E p : Nat} {C : Int} {M : SM} {a1 a2 : Option Addr} {c1 c2 : Nat} (h : VarEG W B E p C M a1 a2 c1 c2) : p < W.heap.size := (Array.getElem?_eq_some_iff.1 h.row).1
theorem VarEG.keep {W W' : World} {B E p : Nat} {C : Int} {M : SM} {a1 a2 : Option Addr} {c1 c2 : Nat} (h : VarEG W B E p C M a1 a2 c1 c2) (hp : W'.heap[p]? = W.heap[p]?) (h1 : ∀ g, a1 = some ⟨g, 0, none⟩ → W'.heap[g]? = W.heap[g]?) (h2 : ∀ g, a2 = some ⟨g, 0, none⟩ → W'.heap[g]? = W.heap[g]?) : VarEG W' B E p C M a1 a2 c1 c2 :=
  ⟨hp.trans h.row, own_other h.s (fun g hg => h1 g (own_at h.s hg)), own_other h.c (fun g hg => h2 g (own_at h.c hg)), h.d, h.b1, h.b2, h.pE⟩
theorem VarEG.below {W W' : World} {B E p : Nat} {C : Int} {M : SM} {a1 a2 : Option Addr} {c1 c2 : Nat} (h : VarEG W B E p C M a1 a2 c1 c2) (hb : Below W.heap.size W W') : VarEG W' B E p C M a1 a2 c1 c2 :=
  h.keep (hb.block p h.lt) (fun g hg => hb.block g (own_lt h.s hg).2) (fun g hg => hb.block g (own_lt h.c hg).2)
theorem VarEG.rows {W : World} {B E p : Nat} {C : Int} {M : SM} {a1 a2 : Option Addr} {c1 c2 : Nat} (h : VarEG W B E p C M a1 a2 c1 c2) : RowV W (.slice a1 M.stk.length c1) M.stk ∧ RowV W (.slice a2 M.cells.length c2) M.cells := ⟨own_row h.s, own_row h.c⟩
theorem Var8G.e {W : World} {B p : Nat} {C : Int} {M : SM} {a1 a2 : Option Addr} {c1 c2 : Nat} (h : Var8G W B p C M a1 a2 c1 c2) : VarEG W B (p + 1) p C M a1 a2 c1 c2 :=
  ⟨h.row, h.s, h.c, h.d, fun g hg => by have := h.b1 g hg; omega, fun g hg => by have := h.b2 g hg; omega, by omega⟩
/-- what a call that made a RegResult answers where the block is there already -/
def ResEG (w W : World) (e : Ending) (C : Int) (M : SM) : Prop := ∃ a1 a2 c1 c2, e = .returned (resV C M (.slice a1 M.stk.length c1) (.slice a2 M.cells.length c2)) ∧ W.heap[w.heap.size]? = some (.cells zero8 30 (0, 0)) ∧ Below w.heap.size w W ∧
  VarEG (fillW W w.heap.size C M (.slice a1 M.stk.length c1) (.slice a2 M.cells.length c2)) (w.heap.size + 1) W.heap.size w.heap.size C M a1 a2 c1 c2 ∧ Below w.heap.size w (fillW W w.heap.size C M (.slice a1 M.stk.length c1) (.slice a2 M.cells.length c2))
theorem ResR.eG {w W : World} {e : Ending} {C : Int} {M : SM} (h : ResR (w.alloc (.cells zero8 30)) W e C M) : ResEG w W e C M := by
  obtain ⟨sv, cv, rfl, hs, hc, hd, hb⟩ := h
  obtain ⟨a1, c1, rfl⟩ := own_shape hs
  obtain ⟨a2, c2, rfl⟩ := own_shape hc
  have hz : (w.alloc (.cells zero8 30)).heap.size = w.heap.size + 1 := by simp
  have hrow := blk8 (heap_alloc_new w (.cells zero8 30)) hb
  have hB : Below w.heap.size w W := ((Below.refl w.heap.size w).alloc (Nat.le_refl _) _).trans (hb.mono (by omega))
  have hE := fill8 w.heap.size W (.int .i64 C) (.int .i64 M.pc) (.slice a1 M.stk.length c1) (.slice a2 M.cells.length c2) (.int .i64 M.sig) (.int .i64 M.used) (.int .i64 M.trap) (.bool M.done)
  rw [hz] at hs hc
  have n1 : ∀ g, a1 = some ⟨g, 0, none⟩ → w.heap.size + 1 ≤ g ∧ g < W.heap.size := fun g hg => own_lt hs hg
  have n2 : ∀ g, a2 = some ⟨g, 0, none⟩ → w.heap.size + 1 ≤ g ∧ g < W.heap.size := fun g hg => own_lt hc hg
  have hO := heap_setCell_same _ w.heap.size 7 _ _ (.bool M.done) (heap_setCell_same _ w.heap.size 6 _ _ (.int .i64 M.trap) (heap_setCell_same _ w.heap.size 5 _ _ (.int .i64 M.used) (heap_setCell_same _ w.heap.size 4 _ _ (.int .i64 M.sig) (heap_setCell_same _ w.heap.size 3 _ _ (.slice a2 M.cells.length c2) (heap_setCell_same _ w.heap.size 2 _ _ (.slice a1 M.stk.length c1) (heap_setCell_same _ w.heap.size 1 _ _ (.int .i64 M.pc) (heap_setCell_same W w.heap.size 0 _ _ (.int .i64 C) hrow)))))))
  simp at hO
  exact ⟨a1, a2, c1, c2, rfl, hrow, hB, ⟨hO, own_sole hs hE (fun e => by have := (hs.lt _ e).1; omega), own_sole hc hE (fun e => by have := (hc.lt _ e).1; omega),
    fun g h1 h2 => hd g (by rw [h1]; rfl) (by rw [h2]; rfl), fun g hg => by have := n1 g hg; omega, fun g hg => by have := n2 g hg; omega, (Array.getElem?_eq_some_iff.1 hrow).1⟩, hB.trans hE.bel⟩
/-- the same where the block is made behind the call and filled then -/
def ResQG (w W : World) (e : Ending) (C : Int) (M : SM) : Prop := ∃ a1 a2 c1 c2, e = .returned (resV C M (.slice a1 M.stk.length c1) (.slice a2 M.cells.length c2)) ∧ Below w.heap.size w W ∧
  VarEG (fillW (W.alloc (.cells zero8 30)) W.heap.size C M (.slice a1 M.stk.length c1) (.slice a2 M.cells.length c2)) w.heap.size (W.heap.size + 1) W.heap.size C M a1 a2 c1 c2 ∧ Below w.heap.size w (fillW (W.alloc (.cells zero8 30)) W.heap.size C M (.slice a1 M.stk.length c1) (.slice a2 M.cells.length c2))
set_option maxHeartbeats 800000 in
theorem ResR.qG {w W : World} {e : Ending} {C : Int} {M : SM} (h : ResR w W e C M) : ResQG w W e C M := by
  obtain ⟨sv, cv, rfl, hs, hc, hd, hb⟩ := h
  obtain ⟨a1, c1, rfl⟩ := own_shape hs
  obtain ⟨a2, c2, rfl⟩ := own_shape hc
  unfold ResQG
  have hz : (W.alloc (.cells zero8 30)).heap.size = W.heap.size + 1 := by simp
  have hrow := heap_alloc_new W (.cells zero8 30)
  have hbW : Below W.heap.size W (W.alloc (.cells zero8 30)) := (Below.refl _ _).alloc (Nat.le_refl _) _
  have n1 : ∀ g, a1 = some ⟨g, 0, none⟩ → w.heap.size ≤ g ∧ g < W.heap.size := fun g hg => own_lt hs hg
  have n2 : ∀ g, a2 = some ⟨g, 0, none⟩ → w.heap.size ≤ g ∧ g < W.heap.size := fun g hg => own_lt hc hg
  generalize W.alloc (.cells zero8 30) = Z at *
  have hs := own_kept hs hbW
  have hc := own_kept hc hbW
  have hE := fill8 W.heap.size Z (.int .i64 C) (.int .i64 M.pc) (.slice a1 M.stk.length c1) (.slice a2 M.cells.length c2) (.int .i64 M.sig) (.int .i64 M.used) (.int .i64 M.trap) (.bool M.done)
  have hO := heap_setCell_same _ W.heap.size 7 _ _ (.bool M.done) (heap_setCell_same _ W.heap.size 6 _ _ (.int .i64 M.trap) (heap_setCell_same _ W.heap.size 5 _ _ (.int .i64 M.used) (heap_setCell_same _ W.heap.size 4 _ _ (.int .i64 M.sig) (heap_setCell_same _ W.heap.size 3 _ _ (.slice a2 M.cells.length c2) (heap_setCell_same _ W.heap.size 2 _ _ (.slice a1 M.stk.length c1) (heap_setCell_same _ W.heap.size 1 _ _ (.int .i64 M.pc) (heap_setCell_same Z W.heap.size 0 _ _ (.int .i64 C) hrow)))))))
  simp at hO
  have hl1 : ∀ g, (Value.slice a1 M.stk.length c1).ownBlock = some g → g ≠ W.heap.size := fun g e => by have := n1 g (own_at hs e); omega
  have hl2 : ∀ g, (Value.slice a2 M.cells.length c2).ownBlock = some g → g ≠ W.heap.size := fun g e => by have := n2 g (own_at hc e); omega
  refine ⟨a1, a2, c1, c2, rfl, hb, ⟨hO, own_sole hs hE (fun e => hl1 _ e rfl), own_sole hc hE (fun e => hl2 _ e rfl),
    fun g h1 h2 => hd g (by rw [h1]; rfl) (by rw [h2]; rfl), fun g hg => by have := n1 g hg; omega, fun g hg => by have := n2 g hg; omega, by omega⟩, (hb.trans (hbW.mono hb.size)).trans (hE.bel.mono hb.size)⟩
/-- the same where the block p was there ahead of the call -/
def ResGG (p : Nat) (w W : World) (e : Ending) (C : Int) (M : SM) : Prop := ∃ a1 a2 c1 c2, e = .returned (resV C M (.slice a1 M.stk.length c1) (.slice a2 M.cells.length c2)) ∧ W.heap[p]? = some (.cells zero8 30 (0, 0)) ∧ Below w.heap.size w W ∧
  VarEG (fillW W p C M (.slice a1 M.stk.length c1) (.slice a2 M.cells.length c2)) w.heap.size W.heap.size p C M a1 a2 c1 c2 ∧ Below p W (fillW W p C M (.slice a1 M.stk.length c1) (.slice a2 M.cells.length c2))
set_option maxHeartbeats 800000 in
theorem ResR.gG {p : Nat} {w W : World} {e : Ending} {C : Int} {M : SM} (h : ResR w W e C M) (hp : w.heap[p]? = some (.cells zero8 30 (0, 0))) : ResGG p w W e C M := by
  obtain ⟨sv, cv, rfl, hs, hc, hd, hb⟩ := h
  obtain ⟨a1, c1, rfl⟩ := own_shape hs
  obtain ⟨a2, c2, rfl⟩ := own_shape hc
  have hpl := (Array.getElem?_eq_some_iff.1 hp).1
  have hrow := blk8 hp hb
  have hE := fill8 p W (.int .i64 C) (.int .i64 M.pc) (.slice a1 M.stk.length c1) (.slice a2 M.cells.length c2) (.int .i64 M.sig) (.int .i64 M.used) (.int .i64 M.trap) (.bool M.done)
  have n1 : ∀ g, a1 = some ⟨g, 0, none⟩ → w.heap.size ≤ g ∧ g < W.heap.size := fun g hg => own_lt hs hg
  have n2 : ∀ g, a2 = some ⟨g, 0, none⟩ → w.heap.size ≤ g ∧ g < W.heap.size := fun g hg => own_lt hc hg
  have hO := heap_setCell_same _ p 7 _ _ (.bool M.done) (heap_setCell_same _ p 6 _ _ (.int .i64 M.trap) (heap_setCell_same _ p 5 _ _ (.int .i64 M.used) (heap_setCell_same _ p 4 _ _ (.int .i64 M.sig) (heap_setCell_same _ p 3 _ _ (.slice a2 M.cells.length c2) (heap_setCell_same _ p 2 _ _ (.slice a1 M.stk.length c1) (heap_setCell_same _ p 1 _ _ (.int .i64 M.pc) (heap_setCell_same W p 0 _ _ (.int .i64 C) hrow)))))))
  simp at hO
  exact ⟨a1, a2, c1, c2, rfl, hrow, hb, ⟨hO, own_sole hs hE (fun e => by have := (hs.lt _ e).1; omega), own_sole hc hE (fun e => by have := (hc.lt _ e).1; omega),
    fun g h1 h2 => hd g (by rw [h1]; rfl) (by rw [h2]; rfl), fun g hg => by have := n1 g hg; omega, fun g hg => by have := n2 g hg; omega, by have := hb.size; omega⟩, hE.bel⟩
end Go.Proofs.Ytcikofhbfncgdaa
namespace Go.Proofs.Ytcikofhbfncgdaa
open Go.RowKit
set_option linter.unusedVariables false

theorem step_below {a b c : World} (h : Below a.heap.size a b) (hb : Below b.heap.size b c) : Below a.heap.size a c := h.trans (hb.mono h.size)
theorem al_drew (w : World) (o : Obj) : ((w.alloc o).drew).heap[w.heap.size]? = some o := heap_alloc_new w o
theorem below_al {a b : World} {o : Obj} (h : Below a.heap.size a b) : Below a.heap.size a (b.alloc o) := h.alloc h.size o
/-- what three calls make: a row's copy, a machine's copy, a StackResult -/
structure Trio (fT fM fS : Nat) (w1 : World) (cd : Value) (mv : Value) (zs : List Int) (m1 : SM) (C : Int) (M : SM) : Prop where
  t : ∀ W, Below w1.heap.size w1 W → Calls Try.prog fT #[cd] W fun e w' => ∃ g, e = .returned (.slice (some ⟨g, 0, none⟩) zs.length zs.length) ∧ Nums w' (some ⟨g, 0, none⟩) zs ∧ g < w'.heap.size ∧ Below W.heap.size W w'
  m : ∀ W, Below w1.heap.size w1 W → Calls Try.prog fM #[mv] W fun e w' => ∃ sv cv, e = .returned (machL m1 sv cv) ∧ RowV w' sv m1.stk ∧ RowV w' cv m1.cells ∧ Below W.heap.size W w'
  g : ∀ (p g : Nat) (sv cv : Value) W, W.heap[p]? = some (.cells zero8 41 (0, 0)) → Nums W (some ⟨g, 0, none⟩) zs → g < W.heap.size → RowV W sv m1.stk → RowV W cv m1.cells → Calls Try.prog fS #[.slice (some ⟨g, 0, none⟩) zs.length zs.length, machL m1 sv cv] W fun e w' => ResG p W w' e C M
  q : ∀ (g : Nat) (sv cv : Value) W, Nums W (some ⟨g, 0, none⟩) zs → g < W.heap.size → RowV W sv m1.stk → RowV W cv m1.cells → Calls Try.prog fS #[.slice (some ⟨g, 0, none⟩) zs.length zs.length, machL m1 sv cv] W fun e w' => ResS W w' e C M

/-- a machine in its block with two rows of its own -/
structure VarM (W : World) (B p : Nat) (m : SM) (a1 a2 : Option Addr) (c1 c2 : Nat) : Prop where
  row : W.heap[p]? = some (.cells (lineL m (.slice a1 m.stk.length c1) (.slice a2 m.cells.length c2)) 39 (0, 0))
  s : Own W B (.slice a1 m.stk.length c1) m.stk
  c : Own W B (.slice a2 m.cells.length c2) m.cells
  d : ∀ g, a1 = some ⟨g, 0, none⟩ → a2 ≠ some ⟨g, 0, none⟩
  b1 : ∀ g, a1 = some ⟨g, 0, none⟩ → B ≤ g ∧ g < p
  b2 : ∀ g, a2 = some ⟨g, 0, none⟩ → B ≤ g ∧ g < p
theorem VarM.lt {W : World} {B p : Nat} {m : SM} {a1 a2 : Option Addr} {c1 c2 : Nat} (h : VarM W B p m a1 a2 c1 c2) : p < W.heap.size := (Array.getElem?_eq_some_iff.1 h.row).1
theorem VarM.below {W W' : World} {B p : Nat} {m : SM} {a1 a2 : Option Addr} {c1 c2 : Nat} (h : VarM W B p m a1 a2 c1 c2) (hb : Below W.heap.size W W') : VarM W' B p m a1 a2 c1 c2 :=
  ⟨blk8 h.row hb, own_kept h.s hb, own_kept h.c hb, h.d, h.b1, h.b2⟩
theorem VarM.keep {W W' : World} {B p : Nat} {m : SM} {a1 a2 : Option Addr} {c1 c2 : Nat} (h : VarM W B p m a1 a2 c1 c2) (hp : W'.heap[p]? = W.heap[p]?) (h1 : ∀ g, B ≤ g → g < p → W'.heap[g]? = W.heap[g]?) : VarM W' B p m a1 a2 c1 c2 :=
  ⟨hp.trans h.row, own_other h.s (fun g hg => have k := h.b1 g (own_at h.s hg); h1 g k.1 k.2), own_other h.c (fun g hg => have k := h.b2 g (own_at h.c hg); h1 g k.1 k.2), h.d, h.b1, h.b2⟩
theorem VarE.keepE {W W' : World} {B E p : Nat} {C : Int} {M : SM} {a1 a2 : Option Addr} {c1 c2 : Nat} (h : VarE W B E p C M a1 a2 c1 c2) (h1 : ∀ g, g < E → W'.heap[g]? = W.heap[g]?) : VarE W' B E p C M a1 a2 c1 c2 :=
  h.keep (h1 p h.pE) (fun g hg => h1 g (h.b1 g hg).2.1) (fun g hg => h1 g (h.b2 g hg).2.1)
/-- the law's memory behind the first call: the argument's block, the model's answer, the two copies -/
structure StepW (w W : World) (L : Array Value) (zs : List Int) (m1 : SM) (C : Int) (M : SM) (B E p x D y : Nat) (b1 b2 s1 s2 : Option Addr) (d1 d2 t1 t2 : Nat) : Prop where
  a : W.heap[w.heap.size]? = some (.cells L 67 (0, 0))
  v : VarE W B E p C M b1 b2 d1 d2
  xo : Own W x (.slice (some ⟨x, 0, none⟩) zs.length zs.length) zs
  mo : VarM W D y m1 s1 s2 t1 t2
  b : Below w.heap.size w W
  l : w.heap.size < E ∧ E ≤ x ∧ x < D ∧ D ≤ y ∧ y < W.heap.size
theorem StepW.below {w W W' : World} {L : Array Value} {zs : List Int} {m1 : SM} {C : Int} {M : SM} {B E p x D y : Nat} {b1 b2 s1 s2 : Option Addr} {d1 d2 t1 t2 : Nat} (h : StepW w W L zs m1 C M B E p x D y b1 b2 s1 s2 d1 d2 t1 t2) (hb : Below W.heap.size W W') : StepW w W' L zs m1 C M B E p x D y b1 b2 s1 s2 d1 d2 t1 t2 :=
  ⟨blk8 h.a hb, h.v.below hb, own_kept h.xo hb, h.mo.below hb, h.b.trans (hb.mono h.b.size), by have := h.l; have := hb.size; omega⟩
/-- behind the marks: the argument's block, both answers -/
structure StepZ (w W : World) (L : Array Value) (C : Int) (M : SM) (B E p D q : Nat) (b1 b2 f1 f2 : Option Addr) (d1 d2 i1 i2 : Nat) : Prop where
  a : W.heap[w.heap.size]? = some (.cells L 67 (0, 0))
  v : VarE W B E p C M b1 b2 d1 d2
  u : Var8 W D q C M f1 f2 i1 i2
  b : Below w.heap.size w W
  l : w.heap.size < E ∧ E ≤ D ∧ D ≤ q ∧ q < W.heap.size
theorem StepZ.below {w W W' : World} {L : Array Value} {C : Int} {M : SM} {B E p D q : Nat} {b1 b2 f1 f2 : Option Addr} {d1 d2 i1 i2 : Nat} (h : StepZ w W L C M B E p D q b1 b2 f1 f2 d1 d2 i1 i2) (hb : Below W.heap.size W W') : StepZ w W' L C M B E p D q b1 b2 f1 f2 d1 d2 i1 i2 :=
  ⟨blk8 h.a hb, h.v.below hb, h.u.below hb, h.b.trans (hb.mono h.b.size), by have := h.l; have := hb.size; omega⟩
/-- behind the answer's own marks -/
structure StepN (w W : World) (L : Array Value) (C : Int) (M : SM) (B E p q : Nat) (b1 b2 f1 f2 : Option Addr) (d1 d2 i1 i2 : Nat) : Prop where
  a : W.heap[w.heap.size]? = some (.cells L 67 (0, 0))
  v : VarE W B E p C M b1 b2 d1 d2
  u : W.heap[q]? = some (.cells (line8 C M (.slice f1 M.stk.length i1) (.slice f2 M.cells.length i2)) 41 (0, 0))
  n1 : Nums W f1 (marks 1 M.stk.length)
  n2 : Nums W f2 (marks (1 + M.stk.length) M.cells.length)
  b : Below w.heap.size w W
theorem StepN.below {w W W' : World} {L : Array Value} {C : Int} {M : SM} {B E p q : Nat} {b1 b2 f1 f2 : Option Addr} {d1 d2 i1 i2 : Nat} (h : StepN w W L C M B E p q b1 b2 f1 f2 d1 d2 i1 i2) (hb : Below W.heap.size W W') : StepN w W' L C M B E p q b1 b2 f1 f2 d1 d2 i1 i2 :=
  ⟨blk8 h.a hb, h.v.below hb, blk8 h.u hb, h.n1.below hb, h.n2.below hb, h.b.trans (hb.mono h.b.size)⟩
end Go.Proofs.Ytcikofhbfncgdaa
namespace Go.Proofs.Ytcikofhbfncgdaa
open Go.RowKit
set_option linter.unusedVariables false

/-- what three calls make: a row's copy, a machine's copy, a RegResult -/
structure TrioG (fT fM fS : Nat) (w1 : World) (cd : Value) (mv : Value) (zs : List Int) (m1 : SM) (C : Int) (M : SM) : Prop where
  t : ∀ W, Below w1.heap.size w1 W → Calls Try.prog fT #[cd] W fun e w' => ∃ g, e = .returned (.slice (some ⟨g, 0, none⟩) zs.length zs.length) ∧ Nums w' (some ⟨g, 0, none⟩) zs ∧ g < w'.heap.size ∧ Below W.heap.size W w'
  m : ∀ W, Below w1.heap.size w1 W → Calls Try.prog fM #[mv] W fun e w' => ∃ sv cv, e = .returned (machL m1 sv cv) ∧ RowV w' sv m1.stk ∧ RowV w' cv m1.cells ∧ Below W.heap.size W w'
  g : ∀ (p g : Nat) (sv cv : Value) W, W.heap[p]? = some (.cells zero8 30 (0, 0)) → Nums W (some ⟨g, 0, none⟩) zs → g < W.heap.size → RowV W sv m1.stk → RowV W cv m1.cells → Calls Try.prog fS #[.slice (some ⟨g, 0, none⟩) zs.length zs.length, machL m1 sv cv] W fun e w' => ResGG p W w' e C M
  q : ∀ (g : Nat) (sv cv : Value) W, Nums W (some ⟨g, 0, none⟩) zs → g < W.heap.size → RowV W sv m1.stk → RowV W cv m1.cells → Calls Try.prog fS #[.slice (some ⟨g, 0, none⟩) zs.length zs.length, machL m1 sv cv] W fun e w' => ResSG W w' e C M

/-- a machine in its block with two rows of its own -/
structure VarMG (W : World) (B p : Nat) (m : SM) (a1 a2 : Option Addr) (c1 c2 : Nat) : Prop where
  row : W.heap[p]? = some (.cells (lineL m (.slice a1 m.stk.length c1) (.slice a2 m.cells.length c2)) 28 (0, 0))
  s : Own W B (.slice a1 m.stk.length c1) m.stk
  c : Own W B (.slice a2 m.cells.length c2) m.cells
  d : ∀ g, a1 = some ⟨g, 0, none⟩ → a2 ≠ some ⟨g, 0, none⟩
  b1 : ∀ g, a1 = some ⟨g, 0, none⟩ → B ≤ g ∧ g < p
  b2 : ∀ g, a2 = some ⟨g, 0, none⟩ → B ≤ g ∧ g < p
theorem VarMG.lt {W : World} {B p : Nat} {m : SM} {a1 a2 : Option Addr} {c1 c2 : Nat} (h : VarMG W B p m a1 a2 c1 c2) : p < W.heap.size := (Array.getElem?_eq_some_iff.1 h.row).1
theorem VarMG.below {W W' : World} {B p : Nat} {m : SM} {a1 a2 : Option Addr} {c1 c2 : Nat} (h : VarMG W B p m a1 a2 c1 c2) (hb : Below W.heap.size W W') : VarMG W' B p m a1 a2 c1 c2 :=
  ⟨blk8 h.row hb, own_kept h.s hb, own_kept h.c hb, h.d, h.b1, h.b2⟩
theorem VarMG.keep {W W' : World} {B p : Nat} {m : SM} {a1 a2 : Option Addr} {c1 c2 : Nat} (h : VarMG W B p m a1 a2 c1 c2) (hp : W'.heap[p]? = W.heap[p]?) (h1 : ∀ g, B ≤ g → g < p → W'.heap[g]? = W.heap[g]?) : VarMG W' B p m a1 a2 c1 c2 :=
  ⟨hp.trans h.row, own_other h.s (fun g hg => have k := h.b1 g (own_at h.s hg); h1 g k.1 k.2), own_other h.c (fun g hg => have k := h.b2 g (own_at h.c hg); h1 g k.1 k.2), h.d, h.b1, h.b2⟩
theorem VarEG.keepE {W W' : World} {B E p : Nat} {C : Int} {M : SM} {a1 a2 : Option Addr} {c1 c2 : Nat} (h : VarEG W B E p C M a1 a2 c1 c2) (h1 : ∀ g, g < E → W'.heap[g]? = W.heap[g]?) : VarEG W' B E p C M a1 a2 c1 c2 :=
  h.keep (h1 p h.pE) (fun g hg => h1 g (h.b1 g hg).2.1) (fun g hg => h1 g (h.b2 g hg).2.1)
/-- the law's memory behind the first call: the argument's block, the model's answer, the two copies -/
structure StepWG (w W : World) (L : Array Value) (zs : List Int) (m1 : SM) (C : Int) (M : SM) (B E p x D y : Nat) (b1 b2 s1 s2 : Option Addr) (d1 d2 t1 t2 : Nat) : Prop where
  a : W.heap[w.heap.size]? = some (.cells L 47 (0, 0))
  v : VarEG W B E p C M b1 b2 d1 d2
  xo : Own W x (.slice (some ⟨x, 0, none⟩) zs.length zs.length) zs
  mo : VarMG W D y m1 s1 s2 t1 t2
  b : Below w.heap.size w W
  l : w.heap.size < E ∧ E ≤ x ∧ x < D ∧ D ≤ y ∧ y < W.heap.size
theorem StepWG.below {w W W' : World} {L : Array Value} {zs : List Int} {m1 : SM} {C : Int} {M : SM} {B E p x D y : Nat} {b1 b2 s1 s2 : Option Addr} {d1 d2 t1 t2 : Nat} (h : StepWG w W L zs m1 C M B E p x D y b1 b2 s1 s2 d1 d2 t1 t2) (hb : Below W.heap.size W W') : StepWG w W' L zs m1 C M B E p x D y b1 b2 s1 s2 d1 d2 t1 t2 :=
  ⟨blk8 h.a hb, h.v.below hb, own_kept h.xo hb, h.mo.below hb, h.b.trans (hb.mono h.b.size), by have := h.l; have := hb.size; omega⟩
/-- behind the marks: the argument's block, both answers -/
structure StepZG (w W : World) (L : Array Value) (C : Int) (M : SM) (B E p D q : Nat) (b1 b2 f1 f2 : Option Addr) (d1 d2 i1 i2 : Nat) : Prop where
  a : W.heap[w.heap.size]? = some (.cells L 47 (0, 0))
  v : VarEG W B E p C M b1 b2 d1 d2
  u : Var8G W D q C M f1 f2 i1 i2
  b : Below w.heap.size w W
  l : w.heap.size < E ∧ E ≤ D ∧ D ≤ q ∧ q < W.heap.size
theorem StepZG.below {w W W' : World} {L : Array Value} {C : Int} {M : SM} {B E p D q : Nat} {b1 b2 f1 f2 : Option Addr} {d1 d2 i1 i2 : Nat} (h : StepZG w W L C M B E p D q b1 b2 f1 f2 d1 d2 i1 i2) (hb : Below W.heap.size W W') : StepZG w W' L C M B E p D q b1 b2 f1 f2 d1 d2 i1 i2 :=
  ⟨blk8 h.a hb, h.v.below hb, h.u.below hb, h.b.trans (hb.mono h.b.size), by have := h.l; have := hb.size; omega⟩
/-- behind the answer's own marks -/
structure StepNG (w W : World) (L : Array Value) (C : Int) (M : SM) (B E p q : Nat) (b1 b2 f1 f2 : Option Addr) (d1 d2 i1 i2 : Nat) : Prop where
  a : W.heap[w.heap.size]? = some (.cells L 47 (0, 0))
  v : VarEG W B E p C M b1 b2 d1 d2
  u : W.heap[q]? = some (.cells (line8 C M (.slice f1 M.stk.length i1) (.slice f2 M.cells.length i2)) 30 (0, 0))
  n1 : Nums W f1 (marks 1 M.stk.length)
  n2 : Nums W f2 (marks (1 + M.stk.length) M.cells.length)
  b : Below w.heap.size w W
theorem StepNG.below {w W W' : World} {L : Array Value} {C : Int} {M : SM} {B E p q : Nat} {b1 b2 f1 f2 : Option Addr} {d1 d2 i1 i2 : Nat} (h : StepNG w W L C M B E p q b1 b2 f1 f2 d1 d2 i1 i2) (hb : Below W.heap.size W W') : StepNG w W' L C M B E p q b1 b2 f1 f2 d1 d2 i1 i2 :=
  ⟨blk8 h.a hb, h.v.below hb, blk8 h.u hb, h.n1.below hb, h.n2.below hb, h.b.trans (hb.mono h.b.size)⟩
end Go.Proofs.Ytcikofhbfncgdaa
