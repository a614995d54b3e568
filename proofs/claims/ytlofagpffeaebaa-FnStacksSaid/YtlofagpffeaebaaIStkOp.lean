/-
  impl.stackOpOf: what an op is called, its words, what it takes and gives.
-/
import Derived.Test.YtlofagpffeaebaaStkSm
import Derived.Test.YtlofagpffeaebaaIStkB
import Derived.Deep.WholeRow
namespace Go.Proofs.Ytlofagpffeaebaa
open Go.RowKit
set_option linter.unusedVariables false

abbrev opV (nm : ByteArray) (a t g : Int) : Value := .agg #[.string nm, .int .i64 a, .int .i64 t, .int .i64 g]
abbrev opZ : Array Value := #[.string ⟨#[]⟩, .int .i64 0, .int .i64 0, .int .i64 0, .string ⟨#[]⟩, .int .i64 0, .int .i64 0, .int .i64 0, .string ⟨#[]⟩, .int .i64 0, .int .i64 0, .int .i64 0, .string ⟨#[]⟩, .int .i64 0, .int .i64 0, .int .i64 0, .string ⟨#[]⟩, .int .i64 0, .int .i64 0, .int .i64 0, .string ⟨#[]⟩, .int .i64 0, .int .i64 0, .int .i64 0, .string ⟨#[]⟩, .int .i64 0, .int .i64 0, .int .i64 0, .string ⟨#[]⟩, .int .i64 0, .int .i64 0, .int .i64 0, .string ⟨#[]⟩, .int .i64 0, .int .i64 0, .int .i64 0, .string ⟨#[]⟩, .int .i64 0, .int .i64 0, .int .i64 0, .string ⟨#[]⟩, .int .i64 0, .int .i64 0, .int .i64 0, .string ⟨#[]⟩, .int .i64 0, .int .i64 0, .int .i64 0, .string ⟨#[]⟩, .int .i64 0, .int .i64 0, .int .i64 0, .string ⟨#[]⟩, .int .i64 0, .int .i64 0, .int .i64 0]
abbrev opA : Array Value := #[.string ⟨#[]⟩, .int .i64 0, .int .i64 0, .int .i64 0, .string ⟨#[112, 117, 115, 104]⟩, .int .i64 1, .int .i64 0, .int .i64 1, .string ⟨#[108, 111, 97, 100]⟩, .int .i64 1, .int .i64 0, .int .i64 1, .string ⟨#[115, 116, 111, 114, 101]⟩, .int .i64 1, .int .i64 1, .int .i64 0, .string ⟨#[108, 111, 97, 100, 120]⟩, .int .i64 2, .int .i64 1, .int .i64 1, .string ⟨#[115, 116, 111, 114, 101, 120]⟩, .int .i64 2, .int .i64 2, .int .i64 0, .string ⟨#[116, 119, 111]⟩, .int .i64 1, .int .i64 2, .int .i64 1, .string ⟨#[110, 101, 103]⟩, .int .i64 0, .int .i64 1, .int .i64 1, .string ⟨#[110, 111, 116]⟩, .int .i64 0, .int .i64 1, .int .i64 1, .string ⟨#[98, 111, 111, 108]⟩, .int .i64 0, .int .i64 1, .int .i64 1, .string ⟨#[106, 117, 109, 112]⟩, .int .i64 1, .int .i64 0, .int .i64 0, .string ⟨#[122, 101, 114, 111]⟩, .int .i64 1, .int .i64 1, .int .i64 0, .string ⟨#[109, 97, 114, 107]⟩, .int .i64 1, .int .i64 0, .int .i64 0, .string ⟨#[101, 110, 100]⟩, .int .i64 0, .int .i64 0, .int .i64 0]
theorem zero14 (W : World) : (zeroValue 142).run Try.prog W = .ok (.agg opZ) W := by kernel_rfl
theorem build14 (W : World) : (Instr.build 142 #[(1, .agg #[.string ⟨#[112, 117, 115, 104]⟩, .int .i64 1, .int .i64 0, .int .i64 1]), (2, .agg #[.string ⟨#[108, 111, 97, 100]⟩, .int .i64 1, .int .i64 0, .int .i64 1]), (3, .agg #[.string ⟨#[115, 116, 111, 114, 101]⟩, .int .i64 1, .int .i64 1, .int .i64 0]), (4, .agg #[.string ⟨#[108, 111, 97, 100, 120]⟩, .int .i64 2, .int .i64 1, .int .i64 1]), (5, .agg #[.string ⟨#[115, 116, 111, 114, 101, 120]⟩, .int .i64 2, .int .i64 2, .int .i64 0]), (6, .agg #[.string ⟨#[116, 119, 111]⟩, .int .i64 1, .int .i64 2, .int .i64 1]), (7, .agg #[.string ⟨#[110, 101, 103]⟩, .int .i64 0, .int .i64 1, .int .i64 1]), (8, .agg #[.string ⟨#[110, 111, 116]⟩, .int .i64 0, .int .i64 1, .int .i64 1]), (9, .agg #[.string ⟨#[98, 111, 111, 108]⟩, .int .i64 0, .int .i64 1, .int .i64 1]), (10, .agg #[.string ⟨#[106, 117, 109, 112]⟩, .int .i64 1, .int .i64 0, .int .i64 0]), (11, .agg #[.string ⟨#[122, 101, 114, 111]⟩, .int .i64 1, .int .i64 1, .int .i64 0]), (12, .agg #[.string ⟨#[109, 97, 114, 107]⟩, .int .i64 1, .int .i64 0, .int .i64 0]), (13, .agg #[.string ⟨#[101, 110, 100]⟩, .int .i64 0, .int .i64 0, .int .i64 0])]).run Try.prog W = .ok (.agg opA) W := by kernel_rfl
theorem store14 (w : World) : (storeCells ⟨w.heap.size, 0, none⟩ opA.toList 0).run Try.prog (w.alloc (.cells opZ 142)) = .ok () (w.alloc (.cells opA 142)) :=
  run_storeCells_new w 142 opZ opA (by kernel_rfl) (by rfl) (by decide +kernel)
theorem store14' (w : World) (o : Obj) : (storeCells ⟨w.heap.size + 1, 0, none⟩ opA.toList 0).run Try.prog ((w.alloc o).alloc (.cells opZ 142)) = .ok () ((w.alloc o).alloc (.cells opA 142)) := by
  have := store14 (w.alloc o)
  simpa using this
abbrev OpOf (k : Int) (v : Value) : Prop := ∀ w : World, Calls Try.prog 80 #[.int .i64 k] w fun e w' => e = .returned v ∧ Below w.heap.size w w'
set_option maxHeartbeats 1600000 in
set_option maxRecDepth 100000 in
theorem op_k (k : Nat) (hk0 : (0 : Int) ≤ (k : Int)) (hk1 : (k : Int) < 14) (nm : ByteArray) (a t g : Int) (hv : ∀ j u, #[Value.string nm, .int .i64 a, .int .i64 t, .int .i64 g][j]? = some u → opA[k * 4 + j]? = some u) :
    OpOf k (opV nm a t g) := by
  intro w
  have hz := zero14
  have hb := build14
  have hst := store14'
  have hs : opA.size = 56 := rfl
  have hs0 : opZ.size = 56 := rfl
  generalize opA = A at *
  generalize opZ = Z at *
  have hc : ∀ j u, #[Value.string nm, .int .i64 a, .int .i64 t, .int .i64 g][j]? = some u → ((w.alloc (.cells #[.string ⟨#[]⟩, .int .i64 0, .int .i64 0, .int .i64 0] 123)).alloc (.cells A 142)).cell? ⟨w.heap.size + 1, k * 4 + j, none⟩ = some u := fun j u hj => by
    have e := heap_alloc_new (w.alloc (.cells #[.string ⟨#[]⟩, .int .i64 0, .int .i64 0, .int .i64 0] 123)) (.cells A 142)
    rw [show (w.alloc (.cells #[.string ⟨#[]⟩, .int .i64 0, .int .i64 0, .int .i64 0] 123)).heap.size = w.heap.size + 1 from by simp] at e
    rw [cell_of_row _ _ _ _ _ _ e]
    exact hv j u hj
  have c0 := hc 0 _ rfl
  have c1 := hc 1 _ rfl
  have c2 := hc 2 _ rfl
  have c3 := hc 3 _ rfl
  clear hc hv
  simp only [Nat.add_zero] at c0
  go_enter Try.func80, Try.ntmps80
  go_wp2_with (show Go.wpList _ _ _ (Go.Oper.mk _ (Go.Op.build 142 _) _ _ _ _ :: _) _ _; refine wpList_buildS _ rfl 142 _ rfl (.agg A) _ (by simp [go_sem]) (hb _) ?_)
  have e1 := heap_alloc_new w (.cells #[.string nm, .int .i64 a, .int .i64 t, .int .i64 g] 123)
  have e2 : ((w.alloc (.cells #[.string nm, .int .i64 a, .int .i64 t, .int .i64 g] 123)).alloc (.cells A 142)).heap[w.heap.size]? = _ := (Below.heap_alloc _ _ _ (by simp)).trans e1
  have hB : Below w.heap.size w ((w.alloc (.cells #[.string nm, .int .i64 a, .int .i64 t, .int .i64 g] 123)).alloc (.cells A 142)) := ((Below.refl _ _).alloc (Nat.le_refl _) _).alloc (by simp) _
  generalize ((w.alloc (.cells #[.string nm, .int .i64 a, .int .i64 t, .int .i64 g] 123)).alloc (.cells A 142)) = W at *
  have r0 : W.cell? ⟨w.heap.size, 0, none⟩ = some (.string nm) := cell_of_row _ _ 0 _ _ _ e2
  have r1 : W.cell? ⟨w.heap.size, 1, none⟩ = some (.int .i64 a) := cell_of_row _ _ 1 _ _ _ e2
  have r2 : W.cell? ⟨w.heap.size, 2, none⟩ = some (.int .i64 t) := cell_of_row _ _ 2 _ _ _ e2
  have r3 : W.cell? ⟨w.heap.size, 3, none⟩ = some (.int .i64 g) := cell_of_row _ _ 3 _ _ _ e2
  refine bodyPost_ret (v := opV nm a t g) (by simp [results, Try.results80, go_sem, r0, r1, r2, r3]) rfl ⟨rfl, hB⟩
/-- what an op is called -/
def opNm (op : Int) : List UInt8 := if op = 1 then [112, 117, 115, 104] else if op = 2 then [108, 111, 97, 100] else if op = 3 then [115, 116, 111, 114, 101] else if op = 4 then [108, 111, 97, 100, 120] else if op = 5 then [115, 116, 111, 114, 101, 120] else if op = 6 then [116, 119, 111] else if op = 7 then [110, 101, 103] else if op = 8 then [110, 111, 116] else if op = 9 then [98, 111, 111, 108] else if op = 10 then [106, 117, 109, 112] else if op = 11 then [122, 101, 114, 111] else if op = 12 then [109, 97, 114, 107] else [101, 110, 100]
theorem stackOp_any (op : Int) (h1 : 1 ≤ op) (h2 : op ≤ 13) : OpOf op (opV (bs (opNm op)) (argN op) (tkN op) (gvN op)) := by
  have hop : op = 1 ∨ op = 2 ∨ op = 3 ∨ op = 4 ∨ op = 5 ∨ op = 6 ∨ op = 7 ∨ op = 8 ∨ op = 9 ∨ op = 10 ∨ op = 11 ∨ op = 12 ∨ op = 13 := by omega
  rcases hop with rfl | rfl | rfl | rfl | rfl | rfl | rfl | rfl | rfl | rfl | rfl | rfl | rfl
  · exact op_k 1 (by omega) (by omega) _ _ _ _ (fun j u h => by
      match j, h with
      | 0, h => exact h
      | 1, h => exact h
      | 2, h => exact h
      | 3, h => exact h
      | j + 4, h => simp at h)
  · exact op_k 2 (by omega) (by omega) _ _ _ _ (fun j u h => by
      match j, h with
      | 0, h => exact h
      | 1, h => exact h
      | 2, h => exact h
      | 3, h => exact h
      | j + 4, h => simp at h)
  · exact op_k 3 (by omega) (by omega) _ _ _ _ (fun j u h => by
      match j, h with
      | 0, h => exact h
      | 1, h => exact h
      | 2, h => exact h
      | 3, h => exact h
      | j + 4, h => simp at h)
  · exact op_k 4 (by omega) (by omega) _ _ _ _ (fun j u h => by
      match j, h with
      | 0, h => exact h
      | 1, h => exact h
      | 2, h => exact h
      | 3, h => exact h
      | j + 4, h => simp at h)
  · exact op_k 5 (by omega) (by omega) _ _ _ _ (fun j u h => by
      match j, h with
      | 0, h => exact h
      | 1, h => exact h
      | 2, h => exact h
      | 3, h => exact h
      | j + 4, h => simp at h)
  · exact op_k 6 (by omega) (by omega) _ _ _ _ (fun j u h => by
      match j, h with
      | 0, h => exact h
      | 1, h => exact h
      | 2, h => exact h
      | 3, h => exact h
      | j + 4, h => simp at h)
  · exact op_k 7 (by omega) (by omega) _ _ _ _ (fun j u h => by
      match j, h with
      | 0, h => exact h
      | 1, h => exact h
      | 2, h => exact h
      | 3, h => exact h
      | j + 4, h => simp at h)
  · exact op_k 8 (by omega) (by omega) _ _ _ _ (fun j u h => by
      match j, h with
      | 0, h => exact h
      | 1, h => exact h
      | 2, h => exact h
      | 3, h => exact h
      | j + 4, h => simp at h)
  · exact op_k 9 (by omega) (by omega) _ _ _ _ (fun j u h => by
      match j, h with
      | 0, h => exact h
      | 1, h => exact h
      | 2, h => exact h
      | 3, h => exact h
      | j + 4, h => simp at h)
  · exact op_k 10 (by omega) (by omega) _ _ _ _ (fun j u h => by
      match j, h with
      | 0, h => exact h
      | 1, h => exact h
      | 2, h => exact h
      | 3, h => exact h
      | j + 4, h => simp at h)
  · exact op_k 11 (by omega) (by omega) _ _ _ _ (fun j u h => by
      match j, h with
      | 0, h => exact h
      | 1, h => exact h
      | 2, h => exact h
      | 3, h => exact h
      | j + 4, h => simp at h)
  · exact op_k 12 (by omega) (by omega) _ _ _ _ (fun j u h => by
      match j, h with
      | 0, h => exact h
      | 1, h => exact h
      | 2, h => exact h
      | 3, h => exact h
      | j + 4, h => simp at h)
  · exact op_k 13 (by omega) (by omega) _ _ _ _ (fun j u h => by
      match j, h with
      | 0, h => exact h
      | 1, h => exact h
      | 2, h => exact h
      | 3, h => exact h
      | j + 4, h => simp at h)
set_option maxHeartbeats 800000 in
theorem implArgs (op : Int) (w : World) : Calls Try.prog 79 #[.int .i64 op] w fun e w' => e = .returned (.agg #[.int .i64 (if inB op 1 13 then 0 else 3), .int .i64 (if inB op 1 13 then argN op else 0)]) ∧ Below w.heap.size w w' := by
  have HI : Hid (∀ W, Calls Try.prog 39 #[.int .i64 op, .int .i64 1, .int .i64 13] W fun e w' => e = .returned (.bool (inB op 1 13)) ∧ w' = W) := within_any op 1 13
  cases hq : inB op 1 13
  · rw [hq] at HI
    have hB : Below w.heap.size w (w.alloc (.cells #[.int .i64 3, .int .i64 0] 29)) := (Below.refl _ _).alloc (Nat.le_refl _) _
    go_enter Try.func79, Try.ntmps79
    go_wp2_with fail
    refine (HI.out _).mono ?_
    rintro e w1 ⟨rfl, rfl⟩
    go_wp2_with fail
    refine bodyPost_ret (v := .agg #[.int .i64 3, .int .i64 0]) (by simp [results, Try.results79, go_sem]) rfl ⟨rfl, ?_⟩
    go_grown
  · rw [hq] at HI
    have h12 := inB_iff.1 hq
    have HO : Hid (OpOf op (opV (bs (opNm op)) (argN op) (tkN op) (gvN op))) := stackOp_any op h12.1 h12.2
    clear h12 hq
    generalize argN op = A at *
    generalize tkN op = K at *
    generalize gvN op = G at *
    generalize bs (opNm op) = nm at *
    have hf : ∀ W, (Instr.field 123 (.agg #[.string nm, .int .i64 A, .int .i64 K, .int .i64 G]) 1).run Try.prog W = .ok (.int .i64 A) W := fun W => by kernel_rfl
    go_enter Try.func79, Try.ntmps79
    go_wp2_with fail
    refine (HI.out _).mono ?_
    rintro e w1 ⟨rfl, rfl⟩
    go_wp2_with fail
    have hB : Below w.heap.size w (w.alloc (.cells #[.int .i64 0, .int .i64 0] 29)) := (Below.refl _ _).alloc (Nat.le_refl _) _
    have hN := heap_alloc_new w (.cells #[.int .i64 0, .int .i64 0] 29)
    generalize w.alloc (.cells #[.int .i64 0, .int .i64 0] 29) = W at *
    refine (HO.out _).mono ?_
    rintro e w2 ⟨rfl, hb⟩
    have hN2 := blk8 hN hb
    have HB : Hid (Below w.heap.size w w2) := hB.trans (hb.mono hB.size)
    clear hN hb hB
    have r0 := cell_of_row _ _ 0 _ _ _ hN2
    have f0 := frozen_of_row _ _ 0 _ _ hN2
    have r1 := cell_of_row _ _ 1 _ _ _ hN2
    have f1 := frozen_of_row _ _ 1 _ _ hN2
    simp at r0 r1 f0 f1
    go_wp2_with fail
    refine bodyPost_ret (v := .agg #[.int .i64 0, .int .i64 A]) (by simp [results, Try.results79, go_sem, r0, r1]) rfl ⟨rfl, (HB.out.setCell (Nat.le_refl _) _).setCell (Nat.le_refl _) _⟩
end Go.Proofs.Ytlofagpffeaebaa
