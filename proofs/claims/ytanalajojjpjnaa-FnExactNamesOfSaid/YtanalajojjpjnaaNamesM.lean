/-
  The names of a tree's variables of a kind; what is wanted of NamesOf.
-/
import Derived.Test.YtanalajojjpjnaaCheckM2
import Derived.Test.YtanalajojjpjnaaRowE
import Derived.Test.YtanalajojjpjnaaTreeC
namespace Go.Proofs.Ytanalajojjpjnaa
open Go.RowKit
set_option linter.unusedVariables false

def namesL (K : Int) (V : List LVar) : List (List UInt8) := (V.filter fun v => decide (v.kind = K)).map LVar.name
def namC (L : List (List UInt8)) : List Value := L.map fun n => .string (bs n)
theorem namesL_hit {K : Int} {V : List LVar} {k : Nat} {x : LVar} (h : V[k]? = some x) (e : x.kind = K) : namesL K (V.take (k + 1)) = namesL K (V.take k) ++ [x.name] := by
  obtain ⟨hk, rfl⟩ := List.getElem?_eq_some_iff.1 h
  unfold namesL; rw [List.take_succ_eq_append_getElem hk, List.filter_append, List.map_append]
  simp [e]
theorem namesL_miss {K : Int} {V : List LVar} {k : Nat} {x : LVar} (h : V[k]? = some x) (e : x.kind ≠ K) : namesL K (V.take (k + 1)) = namesL K (V.take k) := by
  obtain ⟨hk, rfl⟩ := List.getElem?_eq_some_iff.1 h
  unfold namesL; rw [List.take_succ_eq_append_getElem hk, List.filter_append, List.map_append]
  simp [e]
theorem namesL_len (K : Int) (V : List LVar) : (namesL K V).length ≤ V.length := by unfold namesL; rw [List.length_map]; exact List.length_filter_le _ _
theorem namC_len (L : List (List UInt8)) : (namC L).length = L.length := by unfold namC; rw [List.length_map]
theorem namC_snoc (L : List (List UInt8)) (n : List UInt8) : namC (L ++ [n]) = namC L ++ [.string (bs n)] := by unfold namC; rw [List.map_append]; rfl
theorem infoS : (Try.prog.info? 9).map (fun i => (i.zero, i.size, i.bytes)) = some (some (.string ⟨#[]⟩), 1, 16) := by kernel_rfl
def nmoC (T : LTree) (k : Int) : Int := if faultL T ≠ 0 then faultL T else if inB k 1 3 then 0 else 3
def nmoL (T : LTree) (k : Int) : List (List UInt8) := if faultL T ≠ 0 then [] else if inB k 1 3 then namesL k T.vars else []
/-- a function of a tree and a number that answers a code and a list of texts of its own -/
def TreeNames (f : FuncId) (C : LTree → Int → Int) (L : LTree → Int → List (List UInt8)) : Prop := ∀ (lo : Nat) (vv vn vb : Value) (T : LTree) (k : Int) (w : World), TreeV lo w vv vn vb T → Sized 1048576 T →
  Calls Try.prog f #[treeV vv vn vb, .int .i64 k] w fun e w' => ∃ v, e = .returned (.agg #[.int .i64 (C T k), v]) ∧ w'.ownsRow w.heap.size 9 1 v (L T k).length (namC (L T k)) ∧ Below w.heap.size w w'
end Go.Proofs.Ytanalajojjpjnaa
