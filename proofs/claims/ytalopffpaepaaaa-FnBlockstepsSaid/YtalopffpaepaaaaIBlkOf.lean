/-
  impl.blockOf.
-/
import Derived.Test.YtalopffpaepaaaaVarC
import Derived.Test.YtalopffpaepaaaaBlkOwn
namespace Go.Proofs.Ytalopffpaepaaaa
open Go.RowKit
set_option linter.unusedVariables false
attribute [local go_sem] bs_size bs_get bs_extract bs_append bs_eq bs_toList

theorem vars_of_cells {w : World} {g lo n : Nat} {T : TypeId} {cs : Array Value} {xs : List LVar} (h : w.heap[g]? = some (.cells cs T (0, 0))) (hcs : cs = (varCells xs).toArray) (hn : xs.length = n) (hl : lo ≤ g) : VarsV lo w (.slice (some ⟨g, 0, none⟩) n n) xs :=
  ⟨some ⟨g, 0, none⟩, n, by rw [hn], by omega, fun _ => ⟨g, 0, rfl, hl, fun i x hx => by
    subst hcs
    obtain ⟨u0, u1, u2, u3⟩ := varCells_at xs i x hx
    rw [Nat.zero_add]
    refine ⟨?_, ?_, ?_, ?_⟩ <;> rw [cell_of_row _ _ _ _ _ _ h] <;> simpa⟩⟩
theorem ints_of_cells {w : World} {g lo n : Nat} {T : TypeId} {cs : Array Value} {xs : List Int} (h : w.heap[g]? = some (.cells cs T (0, 0))) (hcs : cs = (xs.map (Value.int .i64)).toArray) (hn : xs.length = n) (hl : lo ≤ g) : IntsV lo w (.slice (some ⟨g, 0, none⟩) n n) xs :=
  ⟨some ⟨g, 0, none⟩, n, by rw [hn], by omega, fun _ => ⟨g, 0, rfl, hl, fun i x hx => by
    subst hcs
    rw [Nat.zero_add, cell_of_row _ _ _ _ _ _ h]
    simp [hx]⟩⟩
theorem heap_last (w : World) (o : Obj) (g : Nat) (h : w.heap.size = g) : (w.alloc o).heap[g]? = some o := by subst h; exact heap_alloc_new w o
theorem heap_keep {w : World} {o u : Obj} {g : Nat} (h : w.heap[g]? = some u) : (w.alloc o).heap[g]? = some u := (Below.heap_alloc _ _ _ (Array.getElem?_eq_some_iff.1 h).1).trans h
/-- what blockOf answers: a row of variables of its own, a row of types -/
def BlockR (lo : Nat) (w' : World) (e : Ending) (op : Int) : Prop := ∃ g v2, e = .returned (.agg #[.slice (some ⟨g, 0, none⟩) (ownOf 0 op []).length (ownOf 0 op []).length, v2]) ∧ lo ≤ g ∧ w'.heap[g]? = some (.cells (varCells (ownOf 0 op [])).toArray 105 (0, 0)) ∧ IntsV lo w' v2 (argsL op)

set_option maxHeartbeats 3200000 in
set_option maxRecDepth 100000 in
theorem blockOf_1 (w : World) : Calls Try.prog 39 #[.int .i64 1] w fun e w' => BlockR w.heap.size w' e 1 ∧ Below w.heap.size w w' := by
  go_enter Try.func39, Try.ntmps39
  go_wp2
  refine bodyPost_ret (v := .agg #[.slice (some ⟨w.heap.size + 1 + 1 + 1 + 1, 0, none⟩) 3 3, .slice (some ⟨w.heap.size + 1 + 1 + 1 + 1 + 1, 0, none⟩) 3 3]) (by simp [results, Try.results39, go_sem]) rfl ⟨⟨w.heap.size + 1 + 1 + 1 + 1, _, rfl, by omega, ?_, ints_of_cells (cs := ((argsL 1).map (Value.int .i64)).toArray) (T := 2) ?_ rfl rfl (by omega)⟩, by go_grown⟩
  · exact heap_keep (heap_keep (heap_keep (heap_keep (heap_keep (heap_keep (heap_keep (heap_keep (heap_last _ _ _ (by simp)))))))))
  · exact heap_keep (heap_keep (heap_keep (heap_keep (heap_keep (heap_keep (heap_keep (heap_last _ _ _ (by simp))))))))

set_option maxHeartbeats 3200000 in
set_option maxRecDepth 100000 in
theorem blockOf_2 (w : World) : Calls Try.prog 39 #[.int .i64 2] w fun e w' => BlockR w.heap.size w' e 2 ∧ Below w.heap.size w w' := by
  go_enter Try.func39, Try.ntmps39
  go_wp2
  refine bodyPost_ret (v := .agg #[.slice (some ⟨w.heap.size + 1 + 1 + 1 + 1 + 1 + 1, 0, none⟩) 2 2, .slice (some ⟨w.heap.size + 1 + 1 + 1 + 1 + 1 + 1 + 1, 0, none⟩) 2 2]) (by simp [results, Try.results39, go_sem]) rfl ⟨⟨w.heap.size + 1 + 1 + 1 + 1 + 1 + 1, _, rfl, by omega, ?_, ints_of_cells (cs := ((argsL 2).map (Value.int .i64)).toArray) (T := 2) ?_ rfl rfl (by omega)⟩, by go_grown⟩
  · exact heap_keep (heap_keep (heap_keep (heap_keep (heap_keep (heap_keep (heap_last _ _ _ (by simp)))))))
  · exact heap_keep (heap_keep (heap_keep (heap_keep (heap_keep (heap_last _ _ _ (by simp))))))

set_option maxHeartbeats 3200000 in
set_option maxRecDepth 100000 in
theorem blockOf_3 (w : World) : Calls Try.prog 39 #[.int .i64 3] w fun e w' => BlockR w.heap.size w' e 3 ∧ Below w.heap.size w w' := by
  go_enter Try.func39, Try.ntmps39
  go_wp2
  refine bodyPost_ret (v := .agg #[.slice (some ⟨w.heap.size + 1 + 1 + 1 + 1 + 1 + 1 + 1 + 1, 0, none⟩) 2 2, .slice (some ⟨w.heap.size + 1 + 1 + 1 + 1 + 1 + 1 + 1 + 1 + 1, 0, none⟩) 1 1]) (by simp [results, Try.results39, go_sem]) rfl ⟨⟨w.heap.size + 1 + 1 + 1 + 1 + 1 + 1 + 1 + 1, _, rfl, by omega, ?_, ints_of_cells (cs := ((argsL 3).map (Value.int .i64)).toArray) (T := 2) ?_ rfl rfl (by omega)⟩, by go_grown⟩
  · exact heap_keep (heap_keep (heap_keep (heap_keep (heap_last _ _ _ (by simp)))))
  · exact heap_keep (heap_keep (heap_keep (heap_last _ _ _ (by simp))))

set_option maxHeartbeats 3200000 in
set_option maxRecDepth 100000 in
theorem blockOf_4 (w : World) : Calls Try.prog 39 #[.int .i64 4] w fun e w' => BlockR w.heap.size w' e 4 ∧ Below w.heap.size w w' := by
  go_enter Try.func39, Try.ntmps39
  go_wp2
  refine bodyPost_ret (v := .agg #[.slice (some ⟨w.heap.size + 1 + 1 + 1 + 1 + 1 + 1 + 1 + 1 + 1 + 1, 0, none⟩) 1 1, .slice (some ⟨w.heap.size + 1 + 1 + 1 + 1 + 1 + 1 + 1 + 1 + 1 + 1 + 1, 0, none⟩) 2 2]) (by simp [results, Try.results39, go_sem]) rfl ⟨⟨w.heap.size + 1 + 1 + 1 + 1 + 1 + 1 + 1 + 1 + 1 + 1, _, rfl, by omega, ?_, ints_of_cells (cs := ((argsL 4).map (Value.int .i64)).toArray) (T := 2) ?_ rfl rfl (by omega)⟩, by go_grown⟩
  · exact heap_keep (heap_keep (heap_last _ _ _ (by simp)))
  · exact heap_keep (heap_last _ _ _ (by simp))

theorem blockOf_any (op : Int) (h1 : 1 ≤ op) (h4 : op ≤ 4) (w : World) : Calls Try.prog 39 #[.int .i64 op] w fun e w' => BlockR w.heap.size w' e op ∧ Below w.heap.size w w' := by
  have h : op = 1 ∨ op = 2 ∨ op = 3 ∨ op = 4 := by omega
  rcases h with rfl | rfl | rfl | rfl
  · exact blockOf_1 w
  · exact blockOf_2 w
  · exact blockOf_3 w
  · exact blockOf_4 w
end Go.Proofs.Ytalopffpaepaaaa
