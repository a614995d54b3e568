/-
  A block's own variables, what its call wants: plainly.
-/
import Derived.Test.YtbgnmocbpigpmaaTreeM
namespace Go.Proofs.Ytbgnmocbpigpmaa
open Go.RowKit
set_option linter.unusedVariables false
attribute [local go_sem] bs_size bs_get bs_extract bs_append bs_eq bs_toList

/-- a row's block behind a call -/
theorem blk {w w' : World} {g : Nat} {cs : Array Value} {T : TypeId} (h : w.heap[g]? = some (.cells cs T (0, 0))) (hb : Below w.heap.size w w') : w'.heap[g]? = some (.cells cs T (0, 0)) :=
  (hb.block g (Array.getElem?_eq_some_iff.1 h).1).trans h
theorem blk_lt {w : World} {g : Nat} {o : Obj} (h : w.heap[g]? = some o) : g < w.heap.size := (Array.getElem?_eq_some_iff.1 h).1
abbrev varV (x : LVar) : Value := .agg #[.string (bs x.name), .int .i64 x.kind, .int .i64 x.type, .int .i64 x.size]
/-- the cells of variables -/
def varCells (xs : List LVar) : List Value := xs.flatMap fun x => [.string (bs x.name), .int .i64 x.kind, .int .i64 x.type, .int .i64 x.size]
theorem varCells_len (xs : List LVar) : (varCells xs).length = xs.length * 4 := by
  induction xs with
  | nil => rfl
  | cons x T ih => simp [varCells] at *; omega
theorem varCells_at (T : List LVar) (k : Nat) (x : LVar) (hk : T[k]? = some x) : (varCells T)[k * 4]? = some (.string (bs x.name)) ∧ (varCells T)[k * 4 + 1]? = some (.int .i64 x.kind) ∧ (varCells T)[k * 4 + 2]? = some (.int .i64 x.type) ∧ (varCells T)[k * 4 + 3]? = some (.int .i64 x.size) := by
  induction T generalizing k with
  | nil => simp at hk
  | cons y T ih =>
    cases k with
    | zero =>
      have hy : y = x := by simpa using hk
      subst hy
      simp [varCells]
    | succ k =>
      have h := ih k (by simpa using hk)
      have e : ∀ j, (varCells (y :: T))[(k + 1) * 4 + j]? = (varCells T)[k * 4 + j]? := fun j => by
        unfold varCells
        rw [List.flatMap_cons, List.getElem?_append_right (by simp; omega)]
        congr 1
        simp; omega
      have e0 := e 0
      rw [Nat.add_zero, Nat.add_zero] at e0
      rw [e0, e 1, e 2, e 3]
      exact h
end Go.Proofs.Ytbgnmocbpigpmaa
namespace Go.Proofs.Ytbgnmocbpigpmaa
open Go.RowKit
set_option linter.unusedVariables false
attribute [local go_sem] bs_size bs_get bs_extract bs_append bs_eq bs_toList

/-- the variables that a call needs; K: what stands as their kind -/
def ownOf (K : Int) (op : Int) (nm : List UInt8) : List LVar :=
  if op = 1 then [⟨nm ++ [118], K, 1, 0⟩, ⟨nm ++ [109], K, 2, 0⟩, ⟨nm ++ [113], K, 2, 0⟩]
  else if op = 2 then [⟨nm ++ [118], K, 1, 0⟩, ⟨nm ++ [113], K, 2, 0⟩]
  else if op = 3 then [⟨nm ++ [109], K, 2, 0⟩, ⟨nm ++ [113], K, 2, 0⟩]
  else [⟨nm ++ [113], K, 2, 0⟩]
theorem ownOf_len (K op : Int) (nm : List UInt8) : 1 ≤ (ownOf K op nm).length ∧ (ownOf K op nm).length ≤ 3 := by
  unfold ownOf; split
  · simp
  split
  · simp
  split <;> simp
theorem ownOf_size (K op : Int) (nm : List UInt8) : ∀ v ∈ ownOf K op nm, v.size = 0 := by
  intro v hv; unfold ownOf at hv
  split at hv
  · simp at hv; rcases hv with rfl | rfl | rfl <;> rfl
  split at hv
  · simp at hv; rcases hv with rfl | rfl <;> rfl
  split at hv
  · simp at hv; rcases hv with rfl | rfl <;> rfl
  · simp at hv; subst hv; rfl
theorem ownOf_name (K op : Int) (nm : List UInt8) : ownOf K op nm = (ownOf K op []).map fun v => { v with name := nm ++ v.name } := by
  unfold ownOf
  split
  · rfl
  split
  · rfl
  split <;> rfl
theorem ownOf_get {K op : Int} {nm : List UInt8} {j : Nat} {v : LVar} (h : (ownOf K op [])[j]? = some v) : (ownOf K op nm)[j]? = some { v with name := nm ++ v.name } := by rw [ownOf_name, List.getElem?_map, h]; rfl
theorem ownOf_len2 (K op : Int) (nm : List UInt8) : (ownOf K op nm).length = (ownOf K op []).length := by rw [ownOf_name K op nm, List.length_map]
/-- what a block's call wants -/
def argsL (op : Int) : List Int := if op = 1 then [2, 2, 1] else if op = 2 then [2, 1] else if op = 3 then [2] else [2, 2]
end Go.Proofs.Ytbgnmocbpigpmaa
