/-
  impl.shapeOf.
-/
import Derived.Test.YtbgnmocbpigpmaaIStat
import Derived.Deep.WholeRow
namespace Go.Proofs.Ytbgnmocbpigpmaa
open Go.RowKit
set_option linter.unusedVariables false
attribute [local go_sem] bs_size bs_get bs_extract bs_append bs_eq bs_toList

theorem wpList_build {P : Program} (w : World) {ops : Array Oper} {rest : List Oper} {o : Oper} {a : Act} {Q : Exit → Act → World → Prop}
    (hg : o.guard = none) (t : TypeId) (parts : Array (Nat × Operand)) (hop : o.op = Op.build t parts) (V : Value) (args : Array (Nat × Value)) (hargs : parts.map (fun (i, x) => (i, a.eval x)) = args)
    (hrun : (Instr.build t args).run P w = .ok V w) (hK : wpList P ops Q rest (a.put o.dst V) w) : wpList P ops Q (o :: rest) a w := by
  refine wpList_plain hg fun K hK' => ?_
  unfold Oper.wp
  simp [execOp, hop, hargs, hrun, Result.andThen]
  exact hK' _ _ hK
abbrev shapeV (mo : Int) (nm nu fa : Bool) (le mt : Int) (th el : Bool) : Value := .agg #[.int .i64 mo, .bool nm, .bool nu, .bool fa, .int .i64 le, .int .i64 mt, .bool th, .bool el]
abbrev Shape (k : Int) (v : Value) : Prop := ∀ w : World, Calls Try.prog 122 #[.int .i64 k] w fun e w' => e = .returned v ∧ Below w.heap.size w w'
abbrev zerosA : Array Value := #[.int .i64 0, .bool false, .bool false, .bool false, .int .i64 0, .int .i64 0, .bool false, .bool false, .int .i64 0, .bool false, .bool false, .bool false, .int .i64 0, .int .i64 0, .bool false, .bool false, .int .i64 0, .bool false, .bool false, .bool false, .int .i64 0, .int .i64 0, .bool false, .bool false, .int .i64 0, .bool false, .bool false, .bool false, .int .i64 0, .int .i64 0, .bool false, .bool false, .int .i64 0, .bool false, .bool false, .bool false, .int .i64 0, .int .i64 0, .bool false, .bool false, .int .i64 0, .bool false, .bool false, .bool false, .int .i64 0, .int .i64 0, .bool false, .bool false, .int .i64 0, .bool false, .bool false, .bool false, .int .i64 0, .int .i64 0, .bool false, .bool false, .int .i64 0, .bool false, .bool false, .bool false, .int .i64 0, .int .i64 0, .bool false, .bool false, .int .i64 0, .bool false, .bool false, .bool false, .int .i64 0, .int .i64 0, .bool false, .bool false, .int .i64 0, .bool false, .bool false, .bool false, .int .i64 0, .int .i64 0, .bool false, .bool false, .int .i64 0, .bool false, .bool false, .bool false, .int .i64 0, .int .i64 0, .bool false, .bool false, .int .i64 0, .bool false, .bool false, .bool false, .int .i64 0, .int .i64 0, .bool false, .bool false]
abbrev shapesA : Array Value := #[.int .i64 0, .bool false, .bool false, .bool false, .int .i64 0, .int .i64 0, .bool false, .bool false, .int .i64 0, .bool false, .bool true, .bool false, .int .i64 0, .int .i64 0, .bool false, .bool false, .int .i64 0, .bool true, .bool false, .bool false, .int .i64 0, .int .i64 0, .bool false, .bool false, .int .i64 0, .bool true, .bool false, .bool false, .int .i64 1, .int .i64 1, .bool false, .bool false, .int .i64 0, .bool false, .bool false, .bool false, .int .i64 1, .int .i64 1, .bool false, .bool false, .int .i64 0, .bool false, .bool false, .bool false, .int .i64 1, .int .i64 1, .bool false, .bool false, .int .i64 10, .bool false, .bool false, .bool false, .int .i64 2, .int .i64 2, .bool false, .bool false, .int .i64 0, .bool true, .bool false, .bool false, .int .i64 1, .int .i64 1, .bool false, .bool false, .int .i64 0, .bool true, .bool false, .bool false, .int .i64 2, .int .i64 2, .bool false, .bool false, .int .i64 0, .bool false, .bool false, .bool false, .int .i64 1, .int .i64 1, .bool true, .bool true, .int .i64 0, .bool true, .bool true, .bool true, .int .i64 0, .int .i64 0, .bool true, .bool false, .int .i64 4, .bool true, .bool false, .bool false, .int .i64 1, .int .i64 3, .bool false, .bool false]
theorem zero12 (W : World) : (zeroValue 180).run Try.prog W = .ok (.agg zerosA) W := by kernel_rfl
theorem build12 (W : World) : (Instr.build 180 #[(1, .agg #[.int .i64 0, .bool false, .bool true, .bool false, .int .i64 0, .int .i64 0, .bool false, .bool false]), (2, .agg #[.int .i64 0, .bool true, .bool false, .bool false, .int .i64 0, .int .i64 0, .bool false, .bool false]), (3, .agg #[.int .i64 0, .bool true, .bool false, .bool false, .int .i64 1, .int .i64 1, .bool false, .bool false]), (4, .agg #[.int .i64 0, .bool false, .bool false, .bool false, .int .i64 1, .int .i64 1, .bool false, .bool false]), (5, .agg #[.int .i64 0, .bool false, .bool false, .bool false, .int .i64 1, .int .i64 1, .bool false, .bool false]), (6, .agg #[.int .i64 10, .bool false, .bool false, .bool false, .int .i64 2, .int .i64 2, .bool false, .bool false]), (7, .agg #[.int .i64 0, .bool true, .bool false, .bool false, .int .i64 1, .int .i64 1, .bool false, .bool false]), (8, .agg #[.int .i64 0, .bool true, .bool false, .bool false, .int .i64 2, .int .i64 2, .bool false, .bool false]), (9, .agg #[.int .i64 0, .bool false, .bool false, .bool false, .int .i64 1, .int .i64 1, .bool true, .bool true]), (10, .agg #[.int .i64 0, .bool true, .bool true, .bool true, .int .i64 0, .int .i64 0, .bool true, .bool false]), (11, .agg #[.int .i64 4, .bool true, .bool false, .bool false, .int .i64 1, .int .i64 3, .bool false, .bool false])]).run Try.prog W = .ok (.agg shapesA) W := by kernel_rfl
theorem store12 (w : World) : (storeCells ⟨w.heap.size, 0, none⟩ shapesA.toList 0).run Try.prog (w.alloc (.cells zerosA 180)) = .ok () (w.alloc (.cells shapesA 180)) :=
  run_storeCells_new w 180 zerosA shapesA (by kernel_rfl) (by rfl) (by decide +kernel)
theorem store12' (w : World) (o : Obj) : (storeCells ⟨w.heap.size + 1, 0, none⟩ shapesA.toList 0).run Try.prog ((w.alloc o).alloc (.cells zerosA 180)) = .ok () ((w.alloc o).alloc (.cells shapesA 180)) := by
  have := store12 (w.alloc o)
  simpa using this
set_option maxHeartbeats 1600000 in
set_option maxRecDepth 100000 in
theorem shape_k (k : Nat) (v : Value) (hk0 : (0 : Int) ≤ (k : Int)) (hk1 : (k : Int) < 12) (mo : Int) (nm nu fa : Bool) (le mt : Int) (th el : Bool) (hv : ∀ j u, #[Value.int .i64 mo, .bool nm, .bool nu, .bool fa, .int .i64 le, .int .i64 mt, .bool th, .bool el][j]? = some u → shapesA[k * 8 + j]? = some u) :
    Shape k (shapeV mo nm nu fa le mt th el) := by
  intro w
  have hz := zero12
  have hb := build12
  have hst := store12'
  have hs : shapesA.size = 96 := rfl
  have hs0 : zerosA.size = 96 := rfl
  generalize shapesA = A at *
  generalize zerosA = Z at *
  have hc : ∀ j u, #[Value.int .i64 mo, .bool nm, .bool nu, .bool fa, .int .i64 le, .int .i64 mt, .bool th, .bool el][j]? = some u → ((w.alloc (.cells #[.int .i64 0, .bool false, .bool false, .bool false, .int .i64 0, .int .i64 0, .bool false, .bool false] 149)).alloc (.cells A 180)).cell? ⟨w.heap.size + 1, k * 8 + j, none⟩ = some u := fun j u hj => by
    have e := heap_alloc_new (w.alloc (.cells #[.int .i64 0, .bool false, .bool false, .bool false, .int .i64 0, .int .i64 0, .bool false, .bool false] 149)) (.cells A 180)
    rw [show (w.alloc (.cells #[.int .i64 0, .bool false, .bool false, .bool false, .int .i64 0, .int .i64 0, .bool false, .bool false] 149)).heap.size = w.heap.size + 1 from by simp] at e
    rw [cell_of_row _ _ _ _ _ _ e]
    exact hv j u hj
  have c0 := hc 0 _ rfl
  have c1 := hc 1 _ rfl
  have c2 := hc 2 _ rfl
  have c3 := hc 3 _ rfl
  have c4 := hc 4 _ rfl
  have c5 := hc 5 _ rfl
  have c6 := hc 6 _ rfl
  have c7 := hc 7 _ rfl
  clear hc hv
  simp only [Nat.add_zero] at c0
  go_enter Try.func122, Try.ntmps122
  go_wp2_with (show Go.wpList _ _ _ (Go.Oper.mk _ (Go.Op.build 180 _) _ _ _ _ :: _) _ _; refine wpList_build _ rfl 180 _ rfl (.agg A) _ (by simp [go_sem]) (hb _) ?_)
  have e1 := heap_alloc_new w (.cells #[.int .i64 mo, .bool nm, .bool nu, .bool fa, .int .i64 le, .int .i64 mt, .bool th, .bool el] 149)
  have e2 : ((w.alloc (.cells #[.int .i64 mo, .bool nm, .bool nu, .bool fa, .int .i64 le, .int .i64 mt, .bool th, .bool el] 149)).alloc (.cells A 180)).heap[w.heap.size]? = _ := (Below.heap_alloc _ _ _ (by simp)).trans e1
  have hB : Below w.heap.size w ((w.alloc (.cells #[.int .i64 mo, .bool nm, .bool nu, .bool fa, .int .i64 le, .int .i64 mt, .bool th, .bool el] 149)).alloc (.cells A 180)) := ((Below.refl _ _).alloc (Nat.le_refl _) _).alloc (by simp) _
  generalize ((w.alloc (.cells #[.int .i64 mo, .bool nm, .bool nu, .bool fa, .int .i64 le, .int .i64 mt, .bool th, .bool el] 149)).alloc (.cells A 180)) = W at *
  obtain ⟨r0, r1, r2, r3, r4, r5, r6, r7⟩ := cl8 e2
  refine bodyPost_ret (v := shapeV mo nm nu fa le mt th el) (by simp [results, Try.results122, go_sem, r0, r1, r2, r3, r4, r5, r6, r7]) rfl ⟨rfl, hB⟩
theorem sh1 : Shape 1 (shapeV 0 false true false 0 0 false false) := shape_k 1 (.bool false) (by omega) (by omega) 0 false true false 0 0 false false (fun j u h => by
  match j, h with
  | 0, h => exact h
  | 1, h => exact h
  | 2, h => exact h
  | 3, h => exact h
  | 4, h => exact h
  | 5, h => exact h
  | 6, h => exact h
  | 7, h => exact h
  | j + 8, h => simp at h)
theorem sh2 : Shape 2 (shapeV 0 true false false 0 0 false false) := shape_k 2 (.bool false) (by omega) (by omega) 0 true false false 0 0 false false (fun j u h => by
  match j, h with
  | 0, h => exact h
  | 1, h => exact h
  | 2, h => exact h
  | 3, h => exact h
  | 4, h => exact h
  | 5, h => exact h
  | 6, h => exact h
  | 7, h => exact h
  | j + 8, h => simp at h)
theorem sh3 : Shape 3 (shapeV 0 true false false 1 1 false false) := shape_k 3 (.bool false) (by omega) (by omega) 0 true false false 1 1 false false (fun j u h => by
  match j, h with
  | 0, h => exact h
  | 1, h => exact h
  | 2, h => exact h
  | 3, h => exact h
  | 4, h => exact h
  | 5, h => exact h
  | 6, h => exact h
  | 7, h => exact h
  | j + 8, h => simp at h)
theorem sh4 : Shape 4 (shapeV 0 false false false 1 1 false false) := shape_k 4 (.bool false) (by omega) (by omega) 0 false false false 1 1 false false (fun j u h => by
  match j, h with
  | 0, h => exact h
  | 1, h => exact h
  | 2, h => exact h
  | 3, h => exact h
  | 4, h => exact h
  | 5, h => exact h
  | 6, h => exact h
  | 7, h => exact h
  | j + 8, h => simp at h)
theorem sh5 : Shape 5 (shapeV 0 false false false 1 1 false false) := shape_k 5 (.bool false) (by omega) (by omega) 0 false false false 1 1 false false (fun j u h => by
  match j, h with
  | 0, h => exact h
  | 1, h => exact h
  | 2, h => exact h
  | 3, h => exact h
  | 4, h => exact h
  | 5, h => exact h
  | 6, h => exact h
  | 7, h => exact h
  | j + 8, h => simp at h)
theorem sh6 : Shape 6 (shapeV 10 false false false 2 2 false false) := shape_k 6 (.bool false) (by omega) (by omega) 10 false false false 2 2 false false (fun j u h => by
  match j, h with
  | 0, h => exact h
  | 1, h => exact h
  | 2, h => exact h
  | 3, h => exact h
  | 4, h => exact h
  | 5, h => exact h
  | 6, h => exact h
  | 7, h => exact h
  | j + 8, h => simp at h)
theorem sh7 : Shape 7 (shapeV 0 true false false 1 1 false false) := shape_k 7 (.bool false) (by omega) (by omega) 0 true false false 1 1 false false (fun j u h => by
  match j, h with
  | 0, h => exact h
  | 1, h => exact h
  | 2, h => exact h
  | 3, h => exact h
  | 4, h => exact h
  | 5, h => exact h
  | 6, h => exact h
  | 7, h => exact h
  | j + 8, h => simp at h)
theorem sh8 : Shape 8 (shapeV 0 true false false 2 2 false false) := shape_k 8 (.bool false) (by omega) (by omega) 0 true false false 2 2 false false (fun j u h => by
  match j, h with
  | 0, h => exact h
  | 1, h => exact h
  | 2, h => exact h
  | 3, h => exact h
  | 4, h => exact h
  | 5, h => exact h
  | 6, h => exact h
  | 7, h => exact h
  | j + 8, h => simp at h)
theorem sh9 : Shape 9 (shapeV 0 false false false 1 1 true true) := shape_k 9 (.bool false) (by omega) (by omega) 0 false false false 1 1 true true (fun j u h => by
  match j, h with
  | 0, h => exact h
  | 1, h => exact h
  | 2, h => exact h
  | 3, h => exact h
  | 4, h => exact h
  | 5, h => exact h
  | 6, h => exact h
  | 7, h => exact h
  | j + 8, h => simp at h)
theorem sh10 : Shape 10 (shapeV 0 true true true 0 0 true false) := shape_k 10 (.bool false) (by omega) (by omega) 0 true true true 0 0 true false (fun j u h => by
  match j, h with
  | 0, h => exact h
  | 1, h => exact h
  | 2, h => exact h
  | 3, h => exact h
  | 4, h => exact h
  | 5, h => exact h
  | 6, h => exact h
  | 7, h => exact h
  | j + 8, h => simp at h)
theorem sh11 : Shape 11 (shapeV 4 true false false 1 3 false false) := shape_k 11 (.bool false) (by omega) (by omega) 4 true false false 1 3 false false (fun j u h => by
  match j, h with
  | 0, h => exact h
  | 1, h => exact h
  | 2, h => exact h
  | 3, h => exact h
  | 4, h => exact h
  | 5, h => exact h
  | 6, h => exact h
  | 7, h => exact h
  | j + 8, h => simp at h)
end Go.Proofs.Ytbgnmocbpigpmaa
