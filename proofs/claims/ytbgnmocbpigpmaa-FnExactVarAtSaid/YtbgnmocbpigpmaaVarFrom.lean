/-
  The place of a name among variables.
-/
import Derived.Test.YtbgnmocbpigpmaaTreeM
namespace Go.Proofs.Ytbgnmocbpigpmaa
open Go.RowKit
set_option linter.unusedVariables false

/-- the place of a variable; -1: there is none -/
def varFrom (nm : List UInt8) : List LVar → Nat → Int
  | [], _ => -1
  | v :: r, i => if v.name = nm then (i : Int) else varFrom nm r (i + 1)
theorem varFrom_hit {nm : List UInt8} {V : List LVar} {k : Nat} {x : LVar} (hx : V[k]? = some x) (h : x.name = nm) : varFrom nm (V.drop k) k = k := by
  rw [List.drop_eq_getElem_cons (List.getElem?_eq_some_iff.1 hx).1, (List.getElem?_eq_some_iff.1 hx).2, varFrom, if_pos h]
theorem varFrom_miss {nm : List UInt8} {V : List LVar} {k : Nat} {x : LVar} (hx : V[k]? = some x) (h : x.name ≠ nm) : varFrom nm (V.drop k) k = varFrom nm (V.drop (k + 1)) (k + 1) := by
  rw [List.drop_eq_getElem_cons (List.getElem?_eq_some_iff.1 hx).1, (List.getElem?_eq_some_iff.1 hx).2, varFrom, if_neg h]
theorem varFrom_or (nm : List UInt8) : ∀ (V : List LVar) (i : Nat), varFrom nm V i = -1 ∨ ∃ j : Nat, varFrom nm V i = j ∧ j < i + V.length := by
  intro V
  induction V with
  | nil => intro i; exact .inl rfl
  | cons v r ih =>
    intro i
    unfold varFrom
    split
    · exact .inr ⟨i, rfl, by simp⟩
    · rcases ih (i + 1) with h | ⟨j, h, hj⟩
      · exact .inl h
      · exact .inr ⟨j, h, by simp; omega⟩
end Go.Proofs.Ytbgnmocbpigpmaa
