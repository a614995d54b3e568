/-
  Builds: plain data, and how they lie in memory.
-/
import Derived.Test.YtpobajblngblfaaRowN
namespace Go.Proofs.Ytpobajblngblfaa
open Go.RowKit
set_option linter.unusedVariables false

structure LPort where
  cell : Int
  bool : Bool
deriving DecidableEq, Inhabited
structure LBuild where
  cells : Int
  ports : List LPort
  outs : List Int
  codeA : List Int
  codeB : List Int
  sumsA : List Int
  sumsB : List Int
  budA : Int
  budB : Int
deriving DecidableEq, Inhabited

/-- a row's block behind a call -/
theorem blkB {w w' : World} {g : Nat} {cs : Array Value} {T : TypeId} (h : w.heap[g]? = some (.cells cs T (0, 0))) (hb : Below w.heap.size w w') : w'.heap[g]? = some (.cells cs T (0, 0)) :=
  (hb.block g (Array.getElem?_eq_some_iff.1 h).1).trans h
theorem blkB_lt {w : World} {g : Nat} {o : Obj} (h : w.heap[g]? = some o) : g < w.heap.size := (Array.getElem?_eq_some_iff.1 h).1

/-- numbers in a slice, as many as it has room for or fewer -/
def RowC (w : World) (v : Value) (zs : List Int) : Prop := ∃ a c, v = .slice a zs.length c ∧ zs.length ≤ c ∧ Nums w a zs ∧ (a = none → c = 0)
theorem RowC.below {w w' : World} {v : Value} {zs : List Int} (h : RowC w v zs) (hb : Below w.heap.size w w') : RowC w' v zs := by
  obtain ⟨a, c, rfl, hl, hn, hc⟩ := h
  exact ⟨a, c, rfl, hl, hn.below hb, hc⟩
theorem RowC.row {w : World} {v : Value} {zs : List Int} (h : RowC w v zs) : RowV w v zs := by
  obtain ⟨a, c, e, _, hn, hc⟩ := h
  exact ⟨a, c, e, hn, hc⟩
theorem own_rowC {w : World} {B : Nat} {v : Value} {zs : List Int} (h : Own w B v zs) : RowC w v zs := by
  obtain ⟨a, c, rfl, hn, hc⟩ := own_row h
  refine ⟨a, c, rfl, ?_, hn, hc⟩
  rcases h.2 with ⟨h1, h2⟩ | ⟨g, c2, cur, h1, _, _, h3, _⟩
  · rw [h2]; exact Nat.zero_le _
  · simp at h1; rw [h1.2]; exact h3
/-- ports in a slice -/
def PortAt (w : World) (b o : Nat) (x : LPort) : Prop := w.cell? ⟨b, o, none⟩ = some (.int .i64 x.cell) ∧ w.cell? ⟨b, o + 1, none⟩ = some (.bool x.bool)
def Ports (w : World) (a : Option Addr) (ps : List LPort) : Prop := ps = [] ∨ ∃ b o, a = some ⟨b, o, none⟩ ∧ ∀ (i : Nat) (x : LPort), ps[i]? = some x → PortAt w b (o + i * 2) x
theorem PortAt.below {w w' : World} {b o : Nat} {x : LPort} (h : PortAt w b o x) (hb : Below w.heap.size w w') : PortAt w' b o x :=
  ⟨(hb.cell (p := ⟨b, o, none⟩) (World.block_lt_of_cell? _ _ h.1)).trans h.1, (hb.cell (p := ⟨b, o + 1, none⟩) (World.block_lt_of_cell? _ _ h.2)).trans h.2⟩
theorem Ports.below {w w' : World} {a : Option Addr} {ps : List LPort} (h : Ports w a ps) (hb : Below w.heap.size w w') : Ports w' a ps := by
  rcases h with h | ⟨b, o, e, h⟩
  · exact .inl h
  · exact .inr ⟨b, o, e, fun i x hx => (h i x hx).below hb⟩
theorem Ports.at {w : World} {a : Option Addr} {ps : List LPort} (h : Ports w a ps) {i : Nat} {x : LPort} (hx : ps[i]? = some x) : ∃ b o, a = some ⟨b, o, none⟩ ∧ PortAt w b (o + i * 2) x := by
  rcases h with h | ⟨b, o, e, h⟩
  · rw [h] at hx; simp at hx
  · exact ⟨b, o, e, h i x hx⟩
def PortV (w : World) (v : Value) (ps : List LPort) : Prop := ∃ a c, v = .slice a ps.length c ∧ ps.length ≤ c ∧ Ports w a ps
theorem PortV.below {w w' : World} {v : Value} {ps : List LPort} (h : PortV w v ps) (hb : Below w.heap.size w w') : PortV w' v ps := by
  obtain ⟨a, c, e, hl, hn⟩ := h
  exact ⟨a, c, e, hl, hn.below hb⟩

abbrev portL (x : LPort) : Value := .agg #[.int .i64 x.cell, .bool x.bool]
/-- a build as its cells: its six slices by value -/
abbrev lineB (m : LBuild) (p o a b s t : Value) : Array Value := #[.int .i64 m.cells, p, o, a, b, s, t, .int .i64 m.budA, .int .i64 m.budB]
abbrev buildL (m : LBuild) (p o a b s t : Value) : Value := .agg (lineB m p o a b s t)
/-- a build's rows, wherever they lie -/
structure BldR (w : World) (vp vo va vb vs vt : Value) (m : LBuild) : Prop where
  p : PortV w vp m.ports
  o : RowC w vo m.outs
  a : RowC w va m.codeA
  b : RowC w vb m.codeB
  s : RowC w vs m.sumsA
  t : RowC w vt m.sumsB
theorem BldR.below {w w' : World} {vp vo va vb vs vt : Value} {m : LBuild} (h : BldR w vp vo va vb vs vt m) (hb : Below w.heap.size w w') : BldR w' vp vo va vb vs vt m :=
  ⟨h.p.below hb, h.o.below hb, h.a.below hb, h.b.below hb, h.s.below hb, h.t.below hb⟩
/-- no row is longer than n -/
structure BldLe (m : LBuild) (n : Nat) : Prop where
  p : m.ports.length ≤ n
  o : m.outs.length ≤ n
  a : m.codeA.length ≤ n
  b : m.codeB.length ≤ n
  s : m.sumsA.length ≤ n
  t : m.sumsB.length ≤ n
theorem BldLe.mono {m : LBuild} {n k : Nat} (h : BldLe m n) (hk : n ≤ k) : BldLe m k := ⟨Nat.le_trans h.p hk, Nat.le_trans h.o hk, Nat.le_trans h.a hk, Nat.le_trans h.b hk, Nat.le_trans h.s hk, Nat.le_trans h.t hk⟩
end Go.Proofs.Ytpobajblngblfaa
