/-
  A StackResult: by value, in its block.
-/
import Derived.Test.YtlofagpffeaebaaStkRun
import Derived.Test.YtlofagpffeaebaaStkMem
import Derived.Test.YtlofagpffeaebaaStkSole
namespace Go.Proofs.Ytlofagpffeaebaa
open Go.RowKit
set_option linter.unusedVariables false
/-- a machine as its cells -/
abbrev lineL (m : SM) (sv cv : Value) : Array Value := #[.int .i64 m.pc, sv, cv, .int .i64 m.sig, .int .i64 m.used, .int .i64 m.trap, .bool m.done]
abbrev machL (m : SM) (sv cv : Value) : Value := .agg (lineL m sv cv)
theorem row7 {p : Nat} {w : World} {m : SM} {sv cv : Value} {T : TypeId} (h : w.heap[p]? = some (.cells (lineL m sv cv) T (0, 0))) :
    w.cell? ⟨p, 0, none⟩ = some (.int .i64 m.pc) ∧ w.cell? ⟨p, 1, none⟩ = some sv ∧ w.cell? ⟨p, 2, none⟩ = some cv ∧ w.cell? ⟨p, 3, none⟩ = some (.int .i64 m.sig) ∧ w.cell? ⟨p, 4, none⟩ = some (.int .i64 m.used) ∧ w.cell? ⟨p, 5, none⟩ = some (.int .i64 m.trap) ∧ w.cell? ⟨p, 6, none⟩ = some (.bool m.done) :=
  ⟨cell_of_row _ _ 0 _ _ _ h, cell_of_row _ _ 1 _ _ _ h, cell_of_row _ _ 2 _ _ _ h, cell_of_row _ _ 3 _ _ _ h, cell_of_row _ _ 4 _ _ _ h, cell_of_row _ _ 5 _ _ _ h, cell_of_row _ _ 6 _ _ _ h⟩

abbrev resV (C : Int) (M : SM) (sv cv : Value) : Value := .agg #[.int .i64 C, .int .i64 M.pc, sv, cv, .int .i64 M.sig, .int .i64 M.used, .int .i64 M.trap, .bool M.done]
abbrev zero8 : Array Value := #[.int .i64 0, .int .i64 0, .slice none 0 0, .slice none 0 0, .int .i64 0, .int .i64 0, .int .i64 0, .bool false]
abbrev line8 (C : Int) (M : SM) (sv cv : Value) : Array Value := #[.int .i64 C, .int .i64 M.pc, sv, cv, .int .i64 M.sig, .int .i64 M.used, .int .i64 M.trap, .bool M.done]
theorem row8 {p : Nat} {w : World} {C : Int} {m : SM} {sv cv : Value} {T : TypeId} (h : w.heap[p]? = some (.cells (line8 C m sv cv) T (0, 0))) :
    w.cell? ⟨p, 0, none⟩ = some (.int .i64 C) ∧ w.cell? ⟨p, 1, none⟩ = some (.int .i64 m.pc) ∧ w.cell? ⟨p, 2, none⟩ = some sv ∧ w.cell? ⟨p, 3, none⟩ = some cv ∧ w.cell? ⟨p, 4, none⟩ = some (.int .i64 m.sig) ∧ w.cell? ⟨p, 5, none⟩ = some (.int .i64 m.used) ∧ w.cell? ⟨p, 6, none⟩ = some (.int .i64 m.trap) ∧ w.cell? ⟨p, 7, none⟩ = some (.bool m.done) :=
  ⟨cell_of_row _ _ 0 _ _ _ h, cell_of_row _ _ 1 _ _ _ h, cell_of_row _ _ 2 _ _ _ h, cell_of_row _ _ 3 _ _ _ h, cell_of_row _ _ 4 _ _ _ h, cell_of_row _ _ 5 _ _ _ h, cell_of_row _ _ 6 _ _ _ h, cell_of_row _ _ 7 _ _ _ h⟩
/-- a code and nothing else -/
abbrev codeV (F : Int) : Value := .agg #[.int .i64 F, .int .i64 0, .slice none 0 0, .slice none 0 0, .int .i64 0, .int .i64 0, .int .i64 0, .bool false]
/-- a StackResult that a call made -/
def ResR (w w' : World) (e : Ending) (C : Int) (M : SM) : Prop := ∃ sv cv, e = .returned (resV C M sv cv) ∧ Own w' w.heap.size sv M.stk ∧ Own w' w.heap.size cv M.cells ∧ (∀ g, sv.ownBlock = some g → cv.ownBlock ≠ some g) ∧ Below w.heap.size w w'
theorem fill8 (r : Nat) (W : World) (v0 v1 v2 v3 v4 v5 v6 v7 : Value) : Sole1 r W ((((((((W.setCell ⟨r, 0, none⟩ v0).setCell ⟨r, 1, none⟩ v1).setCell ⟨r, 2, none⟩ v2).setCell ⟨r, 3, none⟩ v3).setCell ⟨r, 4, none⟩ v4).setCell ⟨r, 5, none⟩ v5).setCell ⟨r, 6, none⟩ v6).setCell ⟨r, 7, none⟩ v7) :=
  ((((((((Sole1.refl r W).set 0 v0).set 1 v1).set 2 v2).set 3 v3).set 4 v4).set 5 v5).set 6 v6).set 7 v7
/-- the answer with a code alone -/
theorem res_code (w W : World) (r : Nat) (F : Int) (hr : w.heap.size ≤ r) (hB : Below w.heap.size w W) : ResR w ((((((((W.setCell ⟨r, 0, none⟩ (.int .i64 F)).setCell ⟨r, 1, none⟩ (.int .i64 0)).setCell ⟨r, 2, none⟩ (.slice none 0 0)).setCell ⟨r, 3, none⟩ (.slice none 0 0)).setCell ⟨r, 4, none⟩ (.int .i64 0)).setCell ⟨r, 5, none⟩ (.int .i64 0)).setCell ⟨r, 6, none⟩ (.int .i64 0)).setCell ⟨r, 7, none⟩ (.bool false)) (.returned (resV F zeroM (.slice none 0 0) (.slice none 0 0))) F zeroM :=
  ⟨_, _, rfl, World.ownsRow_nil _ _ _ _, World.ownsRow_nil _ _ _ _, fun g h => by simp [Value.ownBlock] at h, hB.trans ((fill8 r W (.int .i64 F) (.int .i64 0) (.slice none 0 0) (.slice none 0 0) (.int .i64 0) (.int .i64 0) (.int .i64 0) (.bool false)).bel.mono hr)⟩
/-- the answer with a machine -/
theorem res_mach (w W : World) (r B : Nat) (M : SM) (sv cv : Value) (hr : w.heap.size ≤ r) (hrB : r < B) (hs : Own W B sv M.stk) (hc : Own W B cv M.cells) (hd : ∀ g, sv.ownBlock = some g → cv.ownBlock ≠ some g) (hB : Below w.heap.size w W) : ResR w ((((((((W.setCell ⟨r, 0, none⟩ (.int .i64 0)).setCell ⟨r, 1, none⟩ (.int .i64 M.pc)).setCell ⟨r, 2, none⟩ sv).setCell ⟨r, 3, none⟩ cv).setCell ⟨r, 4, none⟩ (.int .i64 M.sig)).setCell ⟨r, 5, none⟩ (.int .i64 M.used)).setCell ⟨r, 6, none⟩ (.int .i64 M.trap)).setCell ⟨r, 7, none⟩ (.bool M.done)) (.returned (resV 0 M sv cv)) 0 M :=
  have hE := fill8 r W (.int .i64 0) (.int .i64 M.pc) sv cv (.int .i64 M.sig) (.int .i64 M.used) (.int .i64 M.trap) (.bool M.done)
  ⟨_, _, rfl, own_mono (own_sole hs hE (fun e => by have := (hs.lt _ e).1; omega)) (by omega), own_mono (own_sole hc hE (fun e => by have := (hc.lt _ e).1; omega)) (by omega), hd, hB.trans (hE.bel.mono hr)⟩
end Go.Proofs.Ytlofagpffeaebaa
