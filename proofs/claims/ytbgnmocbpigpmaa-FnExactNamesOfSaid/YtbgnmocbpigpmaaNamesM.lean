/-
  The names of a tree's variables of a kind; what is wanted of NamesOf.
-/
import Derived.Test.YtbgnmocbpigpmaaOwn
import Derived.Test.YtbgnmocbpigpmaaOwn
import Derived.Test.YtbgnmocbpigpmaaTreeM
import Derived.Test.YtbgnmocbpigpmaaOpenTree
import Derived.Test.YtbgnmocbpigpmaaTreeEq2
namespace Go.Proofs.Ytbgnmocbpigpmaa
open Go.RowKit
set_option linter.unusedVariables false

theorem fault_zero {T : LTree} (h : faultL T = 0) : T.vars.length ≤ 24 ∧ T.nodes.length ≤ 200 ∧ varsB T.vars = 0 ∧ rightsB T.nodes = true ∧ refsB T.nodes T.nodes.length T.body false = true := by
  unfold faultL at h
  split at h
  · simp at h
  rename_i h1
  split at h
  · rename_i h2; exact absurd h h2
  rename_i h2
  split at h
  · simp at h
  rename_i h3
  split at h
  · simp at h
  rename_i h4
  exact ⟨by omega, by omega, by omega, by simpa using h3, by simpa using h4⟩
theorem varsB_zero : ∀ {V : List LVar}, varsB V = 0 → ∀ v ∈ V, varB v = 0 := by
  intro V
  induction V with
  | nil => intro _ v hv; cases hv
  | cons u r ih =>
    intro h v hv
    unfold varsB at h
    split at h
    · rename_i h0
      rcases List.mem_cons.1 hv with rfl | hv
      · exact h0
      · exact ih h v hv
    · rename_i h0; exact absurd h h0
theorem varB_zero {v : LVar} (h : varB v = 0) : isNameL v.name = true ∧ inB v.kind 1 3 = true ∧ inB v.type 1 2 = true ∧ inB v.size 0 8 = true := by
  unfold varB at h
  split at h
  · rename_i h1
    split at h
    · rename_i h2
      simp at h2
      exact ⟨h1, h2.1.1, h2.1.2, h2.2⟩
    · simp at h
  · simp at h
theorem right_at {N : List LNode} (h : rightsB N = true) {k : Nat} {n : LNode} (hk : N[k]? = some n) : ownB n = true ∧ refsB N k n.kids true = true ∧ refsB N k n.thn false = true ∧ refsB N k n.els false = true := by
  have hlt := (List.getElem?_eq_some_iff.1 hk).1
  have h1 := List.all_eq_true.1 h k (List.mem_range.2 hlt)
  have e : N.getD k default = n := by rw [List.getD_eq_getElem?_getD, hk]; rfl
  rw [rightB_eq, e] at h1
  simp only [Bool.and_eq_true] at h1
  exact ⟨h1.1.1.1, h1.1.1.2, h1.1.2, h1.2⟩
theorem own_nums {n : LNode} (h : ownB n = true) : (0 ≤ n.num ∧ n.num ≤ 65535) ∧ (0 ≤ n.far ∧ n.far ≤ 65535) ∧ (1 ≤ n.kind ∧ n.kind ≤ 11) := by
  unfold ownB at h
  simp only [Bool.and_eq_true] at h
  obtain ⟨⟨⟨⟨⟨⟨⟨⟨h1, _⟩, _⟩, _⟩, h2⟩, h3⟩, _⟩, _⟩, _⟩ := h
  refine ⟨?_, ?_, inB_iff.1 h1⟩
  · split at h2
    · exact inB_iff.1 h2
    · have := of_decide_eq_true h2; omega
  · split at h3
    · exact inB_iff.1 h3
    · have := of_decide_eq_true h3; omega
theorem own_op {n : LNode} (h : ownB n = true) (hk : n.kind = 11) : 1 ≤ n.op ∧ n.op ≤ 4 := by
  unfold ownB at h
  simp only [Bool.and_eq_true] at h
  obtain ⟨⟨⟨_, h2⟩, _⟩, _⟩ := h
  rw [if_neg (by omega), if_pos hk] at h2
  exact inB_iff.1 h2
theorem own_name {n : LNode} (h : ownB n = true) (hk : n.kind = 11) : isNameL n.name = true := by
  unfold ownB at h
  simp only [Bool.and_eq_true] at h
  obtain ⟨⟨⟨⟨⟨⟨⟨⟨_, h1⟩, _⟩, _⟩, _⟩, _⟩, _⟩, _⟩, _⟩ := h
  rw [hk] at h1
  simpa [wantsN] using h1
theorem name_len {l : List UInt8} (h : isNameL l = true) : 1 ≤ l.length ∧ l.length ≤ 8 := by
  unfold isNameL at h
  simp only [Bool.and_eq_true] at h
  exact of_decide_eq_true h.1.1
theorem ownOf_one (K op : Int) : ∀ v ∈ ownOf K op [], v.name.length = 1 := by
  intro v hv; unfold ownOf at hv
  split at hv
  · simp at hv; rcases hv with rfl | rfl | rfl <;> rfl
  split at hv
  · simp at hv; rcases hv with rfl | rfl <;> rfl
  split at hv
  · simp at hv; rcases hv with rfl | rfl <;> rfl
  · simp at hv; subst hv; rfl
theorem ownOf_nm (K op : Int) (nm : List UInt8) : ownOf K op nm = (ownOf K op []).map fun v => { v with name := nm ++ v.name } := by
  unfold ownOf
  split
  · rfl
  split
  · rfl
  split <;> rfl
theorem refs_lt {N : List LNode} {m : Nat} {l : List Int} {e : Bool} (h : refsB N m l e = true) : ∀ x ∈ l, 0 ≤ x ∧ x < (m : Int) := fun x hx => by
  have h1 := List.all_eq_true.1 h x hx
  unfold refB at h1
  simp only [Bool.and_eq_true] at h1
  have := inB_iff.1 h1.1
  omega
/-- what the functions behind TreeFault want of a tree -/
structure Good (T : LTree) : Prop where
  vars : T.vars.length ≤ 24
  nodes : T.nodes.length ≤ 200
  var : ∀ v ∈ T.vars, isNameL v.name = true ∧ (1 ≤ v.kind ∧ v.kind ≤ 3) ∧ (1 ≤ v.type ∧ v.type ≤ 2) ∧ (0 ≤ v.size ∧ v.size ≤ 8)
  node : ∀ (k : Nat) (n : LNode), T.nodes[k]? = some n → ownB n = true ∧ (∀ x ∈ n.kids, 0 ≤ x ∧ x < (k : Int)) ∧ (∀ x ∈ n.thn, 0 ≤ x ∧ x < (k : Int)) ∧ (∀ x ∈ n.els, 0 ≤ x ∧ x < (k : Int))
  body : ∀ x ∈ T.body, 0 ≤ x ∧ x < (T.nodes.length : Int)
theorem good_of {T : LTree} (h : faultL T = 0) : Good T := by
  obtain ⟨h1, h2, h3, h4, h5⟩ := fault_zero h
  refine ⟨h1, h2, fun v hv => ?_, fun k n hk => ?_, refs_lt h5⟩
  · obtain ⟨a, b, c, d⟩ := varB_zero (varsB_zero h3 v hv)
    exact ⟨a, inB_iff.1 b, inB_iff.1 c, inB_iff.1 d⟩
  · obtain ⟨a, b, c, d⟩ := right_at h4 hk
    exact ⟨a, refs_lt b, refs_lt c, refs_lt d⟩
theorem Good.tame {T : LTree} (h : Good T) (hS : Sized 1048576 T) : ∀ n ∈ T.nodes, Tame n := fun n hn => by
  obtain ⟨k, hk, rfl⟩ := List.getElem_of_mem hn
  have h1 := own_nums (h.node k _ (List.getElem?_eq_getElem hk)).1
  have h2 := hS.node _ hn
  exact ⟨h1.1, h1.2.1, h2.2.1, h2.2.2.1, h2.2.2.2⟩
theorem Good.sizes {T : LTree} (h : Good T) (K : Int) : SizesLe (allL K T) := fun v hv => by
  rcases List.mem_append.1 hv with hv | hv
  · have := h.var v hv; omega
  · have := ownsL_size K T.nodes v hv; omega
theorem Good.all_len {T : LTree} (h : Good T) (K : Int) : (allL K T).length ≤ 624 := by
  have h1 := ownsL_len K T.nodes
  have := h.vars
  have := h.nodes
  unfold allL; rw [List.length_append]; omega
end Go.Proofs.Ytbgnmocbpigpmaa
namespace Go.Proofs.Ytbgnmocbpigpmaa
open Go.RowKit
set_option linter.unusedVariables false
theorem rowE_shape {w : World} {B z n : Nat} {T : TypeId} {v : Value} {xs : List Value} (h : w.ownsRow B T z v n xs) : ∃ a cap, v = .slice a n cap := by
  rcases h.2 with ⟨rfl, rfl⟩ | ⟨g, c, cur, rfl, _⟩
  · exact ⟨_, _, rfl⟩
  · exact ⟨_, _, rfl⟩
theorem rowE_mono {w : World} {B C z n : Nat} {T : TypeId} {v : Value} {xs : List Value} (h : w.ownsRow B T z v n xs) (hC : C ≤ B) : w.ownsRow C T z v n xs := by
  refine ⟨h.1, ?_⟩
  rcases h.2 with h2 | ⟨g, c, cur, rfl, hg, hr⟩
  · exact .inl h2
  · exact .inr ⟨g, c, cur, rfl, by omega, hr⟩
theorem rowE_same {w w' : World} {B z n : Nat} {T : TypeId} {v : Value} {xs : List Value} (h : w.ownsRow B T z v n xs) (hs : ∀ g, B ≤ g → g < w.heap.size → w'.heap[g]? = w.heap[g]?) : w'.ownsRow B T z v n xs := by
  refine ⟨h.1, ?_⟩
  rcases h.2 with h2 | ⟨g, c, cur, rfl, hg, hh, hr⟩
  · exact .inl h2
  · refine .inr ⟨g, c, cur, rfl, hg, ?_, hr⟩
    rw [hs g hg (Array.getElem?_eq_some_iff.1 hh).1]; exact hh
theorem rowE_kept {w w' : World} {B z n : Nat} {T : TypeId} {v : Value} {xs : List Value} (h : w.ownsRow B T z v n xs) (hb : Below w.heap.size w w') : w'.ownsRow B T z v n xs :=
  rowE_same h fun g _ hg => hb.block g hg
theorem rowE_nil (w : World) (B z : Nat) (T : TypeId) : w.ownsRow B T z (.slice none 0 0) 0 [] := ⟨by simp, .inl ⟨rfl, rfl⟩⟩
theorem rowE_cells {w : World} {B z n : Nat} {T : TypeId} {v : Value} {xs : List Value} (h : w.ownsRow B T z v n xs) (hn : 0 < n) (hx : xs.length = n * z) : ∃ g c, v = .slice (some ⟨g, 0, none⟩) n c ∧ B ≤ g ∧ g < w.heap.size ∧ ∀ i, i < n * z → w.cell? ⟨g, i, none⟩ = xs[i]? := by
  rcases h.2 with ⟨_, h2⟩ | ⟨g, c, cur, rfl, hg, hh, hr, _, hs, ht⟩
  · omega
  · refine ⟨g, c, rfl, hg, (Array.getElem?_eq_some_iff.1 hh).1, fun i hi => ?_⟩
    rw [cell_of_row _ _ _ _ _ _ hh, ← ht, List.getElem?_take_of_lt hi]; simp
theorem row_cap {w : World} {B z n c : Nat} {T : TypeId} {a : Option Addr} {xs : List Value} (h : w.ownsRow B T z (.slice a n c) n xs) : n ≤ c := by
  rcases h.2 with ⟨h, h0⟩ | ⟨g, c', cur, h, _, _, hr, _⟩
  · omega
  · simp at h; omega
end Go.Proofs.Ytbgnmocbpigpmaa
namespace Go.Proofs.Ytbgnmocbpigpmaa
open Go.RowKit
set_option linter.unusedVariables false

/-- a function of a tree that answers a number -/
def TreeInt (f : FuncId) (F : LTree → Int) : Prop := ∀ (lo : Nat) (vv vn vb : Value) (T : LTree) (w : World), TreeV lo w vv vn vb T → Sized 1048576 T →
  Calls Try.prog f #[treeV vv vn vb] w fun e w' => e = .returned (.int .i64 (F T)) ∧ Below w.heap.size w w'
end Go.Proofs.Ytbgnmocbpigpmaa
namespace Go.Proofs.Ytbgnmocbpigpmaa
open Go.RowKit
set_option linter.unusedVariables false

def namesL (K : Int) (V : List LVar) : List (List UInt8) := (V.filter fun v => decide (v.kind = K)).map LVar.name
def namC (L : List (List UInt8)) : List Value := L.map fun n => .string (bs n)
theorem namesL_hit {K : Int} {V : List LVar} {k : Nat} {x : LVar} (h : V[k]? = some x) (e : x.kind = K) : namesL K (V.take (k + 1)) = namesL K (V.take k) ++ [x.name] := by
  obtain ⟨hk, rfl⟩ := List.getElem?_eq_some_iff.1 h
  unfold namesL; rw [List.take_succ_eq_append_getElem hk, List.filter_append, List.map_append]
  simp [e]
theorem namesL_miss {K : Int} {V : List LVar} {k : Nat} {x : LVar} (h : V[k]? = some x) (e : x.kind ≠ K) : namesL K (V.take (k + 1)) = namesL K (V.take k) := by
  obtain ⟨hk, rfl⟩ := List.getElem?_eq_some_iff.1 h
  unfold namesL; rw [List.take_succ_eq_append_getElem hk, List.filter_append, List.map_append]
  simp [e]
theorem namesL_len (K : Int) (V : List LVar) : (namesL K V).length ≤ V.length := by unfold namesL; rw [List.length_map]; exact List.length_filter_le _ _
theorem namC_len (L : List (List UInt8)) : (namC L).length = L.length := by unfold namC; rw [List.length_map]
theorem namC_snoc (L : List (List UInt8)) (n : List UInt8) : namC (L ++ [n]) = namC L ++ [.string (bs n)] := by unfold namC; rw [List.map_append]; rfl
theorem infoS : (Try.prog.info? 9).map (fun i => (i.zero, i.size, i.bytes)) = some (some (.string ⟨#[]⟩), 1, 16) := by kernel_rfl
def nmoC (T : LTree) (k : Int) : Int := if faultL T ≠ 0 then faultL T else if inB k 1 3 then 0 else 3
def nmoL (T : LTree) (k : Int) : List (List UInt8) := if faultL T ≠ 0 then [] else if inB k 1 3 then namesL k T.vars else []
/-- a function of a tree and a number that answers a code and a list of texts of its own -/
def TreeNames (f : FuncId) (C : LTree → Int → Int) (L : LTree → Int → List (List UInt8)) : Prop := ∀ (lo : Nat) (vv vn vb : Value) (T : LTree) (k : Int) (w : World), TreeV lo w vv vn vb T → Sized 1048576 T →
  Calls Try.prog f #[treeV vv vn vb, .int .i64 k] w fun e w' => ∃ v, e = .returned (.agg #[.int .i64 (C T k), v]) ∧ w'.ownsRow w.heap.size 9 1 v (L T k).length (namC (L T k)) ∧ Below w.heap.size w w'
end Go.Proofs.Ytbgnmocbpigpmaa
