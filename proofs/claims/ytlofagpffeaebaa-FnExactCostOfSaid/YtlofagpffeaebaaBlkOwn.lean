/-
  A block's own variables, what its call wants: plainly.
-/
import Derived.Test.YtlofagpffeaebaaTreeM
namespace Go.Proofs.Ytlofagpffeaebaa
open Go.RowKit
set_option linter.unusedVariables false
attribute [local go_sem] bs_size bs_get bs_extract bs_append bs_eq bs_toList

/-- the variables that a call needs; K: what stands as their kind -/
def ownOf (K : Int) (op : Int) (nm : List UInt8) : List LVar :=
  if op = 1 then [⟨nm ++ [118], K, 1, 0⟩, ⟨nm ++ [109], K, 2, 0⟩, ⟨nm ++ [113], K, 2, 0⟩]
  else if op = 2 then [⟨nm ++ [118], K, 1, 0⟩, ⟨nm ++ [113], K, 2, 0⟩]
  else if op = 3 then [⟨nm ++ [109], K, 2, 0⟩, ⟨nm ++ [113], K, 2, 0⟩]
  else [⟨nm ++ [113], K, 2, 0⟩]
theorem ownOf_len (K op : Int) (nm : List UInt8) : 1 ≤ (ownOf K op nm).length ∧ (ownOf K op nm).length ≤ 3 := by
  unfold ownOf; split
  · simp
  split
  · simp
  split <;> simp
theorem ownOf_size (K op : Int) (nm : List UInt8) : ∀ v ∈ ownOf K op nm, v.size = 0 := by
  intro v hv; unfold ownOf at hv
  split at hv
  · simp at hv; rcases hv with rfl | rfl | rfl <;> rfl
  split at hv
  · simp at hv; rcases hv with rfl | rfl <;> rfl
  split at hv
  · simp at hv; rcases hv with rfl | rfl <;> rfl
  · simp at hv; subst hv; rfl
theorem ownOf_name (K op : Int) (nm : List UInt8) : ownOf K op nm = (ownOf K op []).map fun v => { v with name := nm ++ v.name } := by
  unfold ownOf
  split
  · rfl
  split
  · rfl
  split <;> rfl
theorem ownOf_get {K op : Int} {nm : List UInt8} {j : Nat} {v : LVar} (h : (ownOf K op [])[j]? = some v) : (ownOf K op nm)[j]? = some { v with name := nm ++ v.name } := by rw [ownOf_name, List.getElem?_map, h]; rfl
theorem ownOf_len2 (K op : Int) (nm : List UInt8) : (ownOf K op nm).length = (ownOf K op []).length := by rw [ownOf_name K op nm, List.length_map]
/-- what a block's call wants -/
def argsL (op : Int) : List Int := if op = 1 then [2, 2, 1] else if op = 2 then [2, 1] else if op = 3 then [2] else [2, 2]
end Go.Proofs.Ytlofagpffeaebaa
