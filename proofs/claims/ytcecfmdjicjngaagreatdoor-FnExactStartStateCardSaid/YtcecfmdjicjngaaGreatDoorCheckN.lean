/-
  Names of variables, plainly: where no two are one, no two calls have one name.
-/
import Derived.Test.YtcecfmdjicjngaaGreatDoorCheckS
import Derived.Test.YtcecfmdjicjngaaGreatDoorCheckM2
import Derived.Test.YtcecfmdjicjngaaGreatDoorICtx
namespace Go.Proofs.YtcecfmdjicjngaaGreatDoor
open Go.RowKit
set_option linter.unusedVariables false
theorem varFrom_mem (nm : List UInt8) : ∀ (V : List LVar) (i : Nat), 0 ≤ varFrom nm V i ↔ ∃ v ∈ V, v.name = nm := by
 intro V
 induction V with
 | nil => intro i; simp [varFrom]
 | cons v r ih =>
  intro i
  unfold varFrom
  by_cases h : v.name = nm
  ·rw [if_pos h]; exact ⟨fun _ => ⟨v, by simp, h⟩, fun _ => by omega⟩
  ·rw [if_neg h, ih]
   refine ⟨fun ⟨x, hx, e⟩ => ⟨x, by simp [hx], e⟩, fun ⟨x, hx, e⟩ => ?_⟩
   rcases List.mem_cons.1 hx with rfl | hx
   ·exact absurd e h
   ·exact ⟨x, hx, e⟩
theorem dup_pair {V : List LVar} : dupB V = false ↔ V.Pairwise (fun a b => a.name ≠ b.name) := by
 unfold dupB
 rw [List.any_eq_false]
 constructor
 ·intro h
  rw [List.pairwise_iff_getElem]
  intro i j hi hj hij e
  have h1 := h j (List.mem_range.2 hj)
  rw [decide_eq_true_eq, varFrom_mem] at h1
  refine h1 ⟨V[i], ?_, ?_⟩
  ·rw [List.mem_take_iff_getElem]; exact ⟨i, by omega, rfl⟩
  ·rw [List.getD_eq_getElem?_getD, List.getElem?_eq_getElem hj]; exact e
 ·intro h j hj
  have hj := List.mem_range.1 hj
  rw [decide_eq_true_eq, varFrom_mem]
  rintro ⟨v, hv, e⟩
  obtain ⟨i, hi, rfl⟩ := List.mem_take_iff_getElem.1 hv
  rw [List.getD_eq_getElem?_getD, List.getElem?_eq_getElem hj] at e
  exact (List.pairwise_iff_getElem.1 h) i j (by omega) hj (by omega) e
theorem dup_kind (T : LTree) : dupB (allL 3 T) = dupB (allL 0 T) := by
 have hn : (allL 3 T).map LVar.name = (allL 0 T).map LVar.name := by
  unfold allL ownsL
  rw [List.map_append, List.map_append, List.map_flatMap, List.map_flatMap]
  congr 2
  funext n
  unfold ownN
  split
  ·unfold ownOf
   split
   ·rfl
   split
   ·rfl
   split <;> rfl
  ·rfl
 have key : ∀ V : List LVar, V.Pairwise (fun a b => a.name ≠ b.name) ↔ (V.map LVar.name).Pairwise (fun a b => a ≠ b) := fun V => by rw [List.pairwise_map]
 have h : dupB (allL 3 T) = false ↔ dupB (allL 0 T) = false := by rw [dup_pair, dup_pair, key, key, hn]
 cases h1 : dupB (allL 3 T) <;> cases h2 : dupB (allL 0 T) <;> simp_all
def callsL (N : List LNode) : List LVar := (N.filter fun n => decide (n.kind = 11)).map fun n => ⟨n.name, 0, 0, 0⟩
theorem callsL_hit {N : List LNode} {k : Nat} {n : LNode} (h : N[k]? = some n) (e : n.kind = 11) : callsL (N.take (k + 1)) = callsL (N.take k) ++ [⟨n.name, 0, 0, 0⟩] := by
 obtain ⟨hk, rfl⟩ := List.getElem?_eq_some_iff.1 h
 unfold callsL; rw [List.take_succ_eq_append_getElem hk, List.filter_append, List.map_append]
 simp [e]
theorem callsL_miss {N : List LNode} {k : Nat} {n : LNode} (h : N[k]? = some n) (e : n.kind ≠ 11) : callsL (N.take (k + 1)) = callsL (N.take k) := by
 obtain ⟨hk, rfl⟩ := List.getElem?_eq_some_iff.1 h
 unfold callsL; rw [List.take_succ_eq_append_getElem hk, List.filter_append, List.map_append]
 simp [e]
theorem callsL_len (N : List LNode) : (callsL N).length ≤ N.length := by unfold callsL; rw [List.length_map]; exact List.length_filter_le _ _
theorem own_q (K op : Int) (nm : List UInt8) : ∃ v ∈ ownOf K op nm, v.name = nm ++ [113] := by
 unfold ownOf
 split
 ·exact ⟨⟨nm ++ [113], K, 2, 0⟩, by simp, rfl⟩
 split
 ·exact ⟨⟨nm ++ [113], K, 2, 0⟩, by simp, rfl⟩
 split
 ·exact ⟨⟨nm ++ [113], K, 2, 0⟩, by simp, rfl⟩
 ·exact ⟨⟨nm ++ [113], K, 2, 0⟩, by simp, rfl⟩
theorem calls_fresh {T : LTree} {K : Int} (h : dupB (allL K T) = false) {k : Nat} {n : LNode} (hk : T.nodes[k]? = some n) (hc : n.kind = 11) : varFrom n.name (callsL (T.nodes.take k)) 0 < 0 := by
 refine Classical.byContradiction fun hh => ?_
 obtain ⟨v, hv, e⟩ := (varFrom_mem n.name (callsL (T.nodes.take k)) 0).1 (by omega)
 unfold callsL at hv
 obtain ⟨m, hm, rfl⟩ := List.mem_map.1 hv
 obtain ⟨hm1, hm2⟩ := List.mem_filter.1 hm
 obtain ⟨i, hi, rfl⟩ := List.mem_take_iff_getElem.1 hm1
 have hm3 : (T.nodes[i]).kind = 11 := of_decide_eq_true hm2
 obtain ⟨hkl, rfl⟩ := List.getElem?_eq_some_iff.1 hk
 have hp := dup_pair.1 h
 unfold allL ownsL at hp
 have h2 := (List.pairwise_append.1 hp).2.1
 rw [List.pairwise_flatMap] at h2
 have h3 := (List.pairwise_iff_getElem.1 h2.2) i k (by omega) hkl (by omega)
 obtain ⟨a, ha, ea⟩ := own_q K (T.nodes[i]).op (T.nodes[i]).name
 obtain ⟨b, hb, eb⟩ := own_q K (T.nodes[k]).op (T.nodes[k]).name
 refine h3 a (by unfold ownN; rw [if_pos hm3]; exact ha) b (by unfold ownN; rw [if_pos hc]; exact hb) ?_
 rw [ea, eb]
 simp only at e
 rw [e]
theorem any_drop_step {V : List LVar} {k : Nat} {v : LVar} (h : V[k]? = some v) : (V.drop k).any (fun v => !isNameL v.name) = (!isNameL v.name || (V.drop (k + 1)).any (fun v => !isNameL v.name)) := by
 obtain ⟨hk, rfl⟩ := List.getElem?_eq_some_iff.1 h
 rw [List.drop_eq_getElem_cons hk, List.any_cons]
theorem dup_step {V : List LVar} {k : Nat} (hk : k < V.length) : (List.range (k + 1)).any (fun i => decide (0 ≤ varFrom (V.getD i default).name (V.take i) 0)) = ((List.range k).any (fun i => decide (0 ≤ varFrom (V.getD i default).name (V.take i) 0)) || decide (0 ≤ varFrom (V.getD k default).name (V.take k) 0)) := by
 rw [List.range_succ, List.any_append]; simp
theorem dup_hit {V : List LVar} {k : Nat} (hk : k < V.length) (h : 0 ≤ varFrom (V.getD k default).name (V.take k) 0) : dupB V = true := by
 unfold dupB
 rw [List.any_eq_true]
 exact ⟨k, List.mem_range.2 hk, decide_eq_true h⟩
theorem dup_none {V : List LVar} (h : ∀ k, k < V.length → varFrom (V.getD k default).name (V.take k) 0 < 0) : dupB V = false := by
 unfold dupB
 rw [List.any_eq_false]
 intro i hi
 have := h i (List.mem_range.1 hi)
 rw [decide_eq_true_eq]; omega
end Go.Proofs.YtcecfmdjicjngaaGreatDoor
