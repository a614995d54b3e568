/-
  impl's variables by their names: the map, plainly; its laws at the operation.
-/
import Derived.Test.YtbgnmocbpigpmaaIVars
import Derived.Test.YtbgnmocbpigpmaaAllKind
import Derived.Maps.OwnSet
namespace Go.Proofs.Ytbgnmocbpigpmaa
open Go.RowKit
open Go.Maps (IsMap string_keyed)
set_option linter.unusedVariables false

/-- the first of the first k variables that bears a name -/
def firstI (V : List LVar) (nm : List UInt8) : Nat → Option Nat
  | 0 => none
  | k + 1 => match firstI V nm k with
    | some i => some i
    | none => if (V.getD k default).name = nm then some k else none
theorem firstI_some {V : List LVar} {nm : List UInt8} {k i : Nat} (h : firstI V nm k = some i) : firstI V nm (k + 1) = some i := by
  show (match firstI V nm k with | some i => some i | none => _) = _
  rw [h]
theorem firstI_hit {V : List LVar} {nm : List UInt8} {k : Nat} (h : firstI V nm k = none) (e : (V.getD k default).name = nm) : firstI V nm (k + 1) = some k := by
  show (match firstI V nm k with | some i => some i | none => if (V.getD k default).name = nm then some k else none) = _
  rw [h]; simp only [if_pos e]
theorem firstI_miss {V : List LVar} {nm : List UInt8} {k : Nat} (h : firstI V nm k = none) (e : (V.getD k default).name ≠ nm) : firstI V nm (k + 1) = none := by
  show (match firstI V nm k with | some i => some i | none => if (V.getD k default).name = nm then some k else none) = _
  rw [h]; simp only [if_neg e]
theorem key_lit (nm : List UInt8) : WideAt.IsKeyLit (.string nm) := trivial
/-- a variable by value -/
def entVal (V : List LVar) (nv i : Nat) : Value := .agg #[.string (bs (V.getD i default).name), .int .i64 (V.getD i default).kind, .int .i64 (V.getD i default).type, .int .i64 (V.getD i default).size, .bool (decide (nv ≤ i)), .int .i64 (cellsL (V.take i))]
abbrev noVal : Value := .agg #[.string ⟨#[]⟩, .int .i64 0, .int .i64 0, .int .i64 0, .bool false, .int .i64 0]
def heldR (v : Value) : Option (DataW Value × List MemPlace) := some (.held v, [])
/-- the map behind k variables -/
def nameD (V : List LVar) (nv : Nat) : Nat → DataW Value
  | 0 => .map []
  | k + 1 => if (firstI V (V.getD k default).name k).isSome then nameD V nv k else (nameD V nv k).put (.string (V.getD k default).name) (.held (entVal V nv k))
theorem nameD_isMap (V : List LVar) (nv : Nat) : ∀ k, IsMap (nameD V nv k) := by
  intro k
  induction k with
  | zero => exact Maps.isMap_empty
  | succ k ih =>
    unfold nameD
    split
    · exact ih
    · exact ih.put _ _
theorem nameD_at (V : List LVar) (nv : Nat) (zd : DataW Value) : ∀ (k : Nat) (nm : List UInt8), Maps.has (nameD V nv k) (.string nm) = (firstI V nm k).isSome ∧ (nameD V nv k).atKey (.string nm) zd = (match firstI V nm k with | some i => .held (entVal V nv i) | none => zd) := by
  intro k
  induction k with
  | zero => intro nm; exact ⟨rfl, rfl⟩
  | succ k ih =>
    intro nm
    unfold nameD
    split
    · rename_i hs
      obtain ⟨h1, h2⟩ := ih nm
      rw [h1, h2]
      cases hf : firstI V nm k with
      | some i => rw [firstI_some hf]; exact ⟨rfl, rfl⟩
      | none =>
        by_cases e : (V.getD k default).name = nm
        · rw [e, hf] at hs; simp at hs
        · rw [firstI_miss hf e]; exact ⟨rfl, rfl⟩
    · rename_i hs
      by_cases e : (V.getD k default).name = nm
      · rw [e]
        rw [e] at hs
        have hn : firstI V nm k = none := by cases hf : firstI V nm k with
          | none => rfl
          | some i => rw [hf] at hs; simp at hs
        rw [Maps.has_put_same (nameD_isMap V nv k) (key_lit nm), Maps.atKey_put_same (nameD_isMap V nv k) (key_lit nm), firstI_hit hn e]
        exact ⟨rfl, rfl⟩
      · have hne : (Lit.string nm) ≠ (Lit.string (V.getD k default).name) := fun h => e (by injection h with h; exact h.symm)
        obtain ⟨h1, h2⟩ := ih nm
        rw [Maps.has_put_other hne, Maps.atKey_put_other hne, h1, h2]
        cases hf : firstI V nm k with
        | some i => rw [firstI_some hf]; exact ⟨rfl, rfl⟩
        | none => rw [firstI_miss hf e]; exact ⟨rfl, rfl⟩
/-- what a look-up answers -/
def lookV (V : List LVar) (nv k : Nat) (nm : List UInt8) : Value := match firstI V nm k with | some i => entVal V nv i | none => noVal
theorem firstI_from (V : List LVar) (nm : List UInt8) : ∀ k, k ≤ V.length → (∀ i, firstI V nm k = some i → varFrom nm V 0 = (i : Int) ∧ i < k) ∧ (firstI V nm k = none → varFrom nm V 0 = varFrom nm (V.drop k) k) := by
  intro k
  induction k with
  | zero => intro _; exact ⟨fun i h => by simp [firstI] at h, fun _ => rfl⟩
  | succ k ih =>
    intro hk
    obtain ⟨h1, h2⟩ := ih (by omega)
    have hx : V[k]? = some (V.getD k default) := by rw [List.getD_eq_getElem?_getD, List.getElem?_eq_getElem (show k < V.length by omega)]; rfl
    cases hf : firstI V nm k with
    | some i => rw [firstI_some hf]; exact ⟨fun j hj => by simp at hj; subst hj; exact ⟨(h1 i hf).1, by have := (h1 i hf).2; omega⟩, fun h => by simp at h⟩
    | none =>
      by_cases e : (V.getD k default).name = nm
      · rw [firstI_hit hf e]
        refine ⟨fun j hj => ?_, fun h => by simp at h⟩
        simp at hj; subst hj
        exact ⟨(h2 hf).trans (varFrom_hit hx e), by omega⟩
      · rw [firstI_miss hf e]
        exact ⟨fun j hj => by simp at hj, fun _ => (h2 hf).trans (varFrom_miss hx e)⟩

theorem zeroE (w : World) : (zeroValue 87).run Try.prog w = .ok noVal w := by kernel_rfl
theorem keyOf_nm (nm : List UInt8) (h : nm.length ≤ 1048576) : keyOf Try.prog 9 (.string (bs nm)) = some (.string nm) := by
  have := WideMaps.keyOf_string_mk (P := Try.prog) (k := 9) Try.underlying9 (s := bs nm) (by rw [bs_size]; unfold maxLen; omega)
  rw [this]
  rfl
theorem wpList_look_names {w : World} {ops : Array Oper} {rest : List Oper} {o : Oper} {a : Act} {Q : Exit → Act → World → Prop} (hg : o.guard = none) (m x : Operand)
    (hop : o.op = Op.lookup 89 m x true) (V : List LVar) (nv k b n : Nat) (hm : a.eval m = .map (some b)) (hown : w.ownsMap Try.prog 9 heldR b n (nameD V nv k)) (nm : List UInt8) (hs : nm.length ≤ 1048576) (hx : a.eval x = .string (bs nm)) (val : Value) (ok : Bool) (hval : lookV V nv k nm = val) (hok : (firstI V nm k).isSome = ok)
    (hK : wpList Try.prog ops Q rest (a.put o.dst (.tuple #[val, .bool ok])) w) : wpList Try.prog ops Q (o :: rest) a w := by
  subst hval hok
  refine wpList_lookup_own_ok w hg m x _ hop 9 87 (string_keyed Try.underlying9) Try.underlying89 heldR (zeroE w) (.held noVal) [] rfl b n _ hm hown _ _ hx (keyOf_nm nm hs) ?_
  intro v ps hv
  obtain ⟨h1, h2⟩ := nameD_at V nv (.held noVal) k nm
  rw [h2] at hv
  rw [h1]
  have e : v = lookV V nv k nm := by
    unfold lookV
    unfold heldR at hv
    split at hv <;> · simp at hv; exact hv.1
  rw [e]; exact hK
theorem wpList_put_names {w : World} {ops : Array Oper} {rest : List Oper} {o : Oper} {a : Act} {Q : Exit → Act → World → Prop} (hg : o.guard = none) (m x v : Operand)
    (hop : o.op = Op.mapUpdate 89 m x v) (V : List LVar) (nv k b n : Nat) (hm : a.eval m = .map (some b)) (hown : w.ownsMap Try.prog 9 heldR b n (nameD V nv k)) (hn : n < maxLen) (hs : (V.getD k default).name.length ≤ 1048576) (hx : a.eval x = .string (bs (V.getD k default).name)) (hv : a.eval v = entVal V nv k)
    (hf : firstI V (V.getD k default).name k = none)
    (hK : ∀ w', w'.ownsMap Try.prog 9 heldR b (n + 1) (nameD V nv (k + 1)) → w.grownBy w' (some b) → wpList Try.prog ops Q rest (a.put o.dst undef) w') : wpList Try.prog ops Q (o :: rest) a w := by
  refine wpList_mapUpdate_own w hg m x v _ hop 9 87 (string_keyed Try.underlying9) Try.underlying89 heldR b n _ hm hown hn _ _ _ hx hv (keyOf_nm _ hs) (.held (entVal V nv k)) [] rfl ?_
  intro w' h1 h2
  refine hK w' ?_ h2
  have e : nameD V nv (k + 1) = (nameD V nv k).put (.string (V.getD k default).name) (.held (entVal V nv k)) := by
    show (if (firstI V (V.getD k default).name k).isSome then _ else _) = _
    rw [hf]; rfl
  rw [e]; exact h1
theorem nameD_skip {V : List LVar} {nv k : Nat} (h : (firstI V (V.getD k default).name k).isSome = true) : nameD V nv (k + 1) = nameD V nv k := by
  show (if (firstI V (V.getD k default).name k).isSome then _ else _) = _
  rw [if_pos h]
end Go.Proofs.Ytbgnmocbpigpmaa
