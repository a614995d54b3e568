/-
  The kind that stands with blocks' own variables makes no odds.
-/
import Derived.Test.YtdnhmpemkpjcaaaGreatDoorCheckM2
import Derived.Test.YtdnhmpemkpjcaaaGreatDoorVarFrom
namespace Go.Proofs.YtdnhmpemkpjcaaaGreatDoor
open Go.RowKit
set_option linter.unusedVariables false

theorem cellsL_kind (T : LTree) (n : Nat) : cellsL ((allL 3 T).take n) = cellsL ((allL 0 T).take n) := by
  have h1 : ∀ (V W : List LVar), V.map szV = W.map szV → cellsL V = cellsL W := by
    intro V W h
    have : ∀ (V : List LVar) (a : Int), V.foldl (fun s v => s + szV v) a = (V.map szV).foldl (fun s z => s + z) a := by
      intro V; induction V with
      | nil => intro a; rfl
      | cons v r ih => intro a; exact ih _
    unfold cellsL; rw [this, this, h]
  have h2 : ∀ op nm, (ownOf 3 op nm).map szV = (ownOf 0 op nm).map szV := by
    intro op nm; unfold ownOf
    split
    · rfl
    split
    · rfl
    split <;> rfl
  have h3 : (allL 3 T).map szV = (allL 0 T).map szV := by
    unfold allL ownsL
    rw [List.map_append, List.map_append, List.map_flatMap, List.map_flatMap]
    congr 2
    funext n
    unfold ownN
    split
    · exact h2 _ _
    · rfl
  apply h1
  rw [List.map_take, List.map_take, h3]
theorem allL_len (T : LTree) : (allL 3 T).length = (allL 0 T).length := by
  have h2 : ∀ op nm, (ownOf 3 op nm).map szV = (ownOf 0 op nm).map szV := by
    intro op nm; unfold ownOf
    split
    · rfl
    split
    · rfl
    split <;> rfl
  have h3 : (allL 3 T).map szV = (allL 0 T).map szV := by
    unfold allL ownsL
    rw [List.map_append, List.map_append, List.map_flatMap, List.map_flatMap]
    congr 2
    funext n
    unfold ownN
    split
    · exact h2 _ _
    · rfl
  have := congrArg List.length h3
  simpa using this
theorem varFrom_names (nm : List UInt8) : ∀ (V W : List LVar) (i : Nat), V.map LVar.name = W.map LVar.name → varFrom nm V i = varFrom nm W i := by
  intro V
  induction V with
  | nil => intro W i h; cases W with
    | nil => rfl
    | cons w r => simp at h
  | cons v r ih =>
    intro W i h
    cases W with
    | nil => simp at h
    | cons w s =>
      simp at h
      unfold varFrom
      rw [h.1, ih s (i + 1) h.2]
theorem varFrom_kind (T : LTree) (nm : List UInt8) : varFrom nm (allL 3 T) 0 = varFrom nm (allL 0 T) 0 := by
  apply varFrom_names
  unfold allL ownsL
  rw [List.map_append, List.map_append, List.map_flatMap, List.map_flatMap]
  congr 2
  funext n
  unfold ownN
  split
  · unfold ownOf
    split
    · rfl
    split
    · rfl
    split <;> rfl
  · rfl
theorem all_names {T : LTree} (h : Good T) (K : Int) : ∀ x ∈ allL K T, x.name.length ≤ 9 := fun x hx => by
  rcases List.mem_append.1 hx with hx | hx
  · have := (name_len (h.var x hx).1).2; omega
  · obtain ⟨n, hn, hx⟩ := List.mem_flatMap.1 hx
    unfold ownN at hx
    split at hx
    · rename_i hk
      obtain ⟨k, hk2, rfl⟩ := List.getElem_of_mem hn
      have h1 := (name_len (own_name (h.node k _ (List.getElem?_eq_getElem hk2)).1 hk)).2
      rw [ownOf_nm] at hx
      obtain ⟨y, hy, rfl⟩ := List.mem_map.1 hx
      have := ownOf_one K _ y hy
      simp; omega
    · cases hx
end Go.Proofs.YtdnhmpemkpjcaaaGreatDoor
