/-
  impl's instructionAt.
-/
import Derived.Test.YtcikofhbfncgdaaStkMem
import Derived.Test.YtcikofhbfncgdaaIStkB
import Derived.Deep.WholeRow
import Derived.Test.YtcikofhbfncgdaaIStk3
namespace Go.Proofs.Ytcikofhbfncgdaa
open Go.RowKit
set_option linter.unusedVariables false

abbrev opV (nm : ByteArray) (a t g : Int) : Value := .agg #[.string nm, .int .i64 a, .int .i64 t, .int .i64 g]
abbrev opZ : Array Value := #[.string ⟨#[]⟩, .int .i64 0, .int .i64 0, .int .i64 0, .string ⟨#[]⟩, .int .i64 0, .int .i64 0, .int .i64 0, .string ⟨#[]⟩, .int .i64 0, .int .i64 0, .int .i64 0, .string ⟨#[]⟩, .int .i64 0, .int .i64 0, .int .i64 0, .string ⟨#[]⟩, .int .i64 0, .int .i64 0, .int .i64 0, .string ⟨#[]⟩, .int .i64 0, .int .i64 0, .int .i64 0, .string ⟨#[]⟩, .int .i64 0, .int .i64 0, .int .i64 0, .string ⟨#[]⟩, .int .i64 0, .int .i64 0, .int .i64 0, .string ⟨#[]⟩, .int .i64 0, .int .i64 0, .int .i64 0, .string ⟨#[]⟩, .int .i64 0, .int .i64 0, .int .i64 0, .string ⟨#[]⟩, .int .i64 0, .int .i64 0, .int .i64 0, .string ⟨#[]⟩, .int .i64 0, .int .i64 0, .int .i64 0, .string ⟨#[]⟩, .int .i64 0, .int .i64 0, .int .i64 0, .string ⟨#[]⟩, .int .i64 0, .int .i64 0, .int .i64 0]
abbrev opA : Array Value := #[.string ⟨#[]⟩, .int .i64 0, .int .i64 0, .int .i64 0, .string ⟨#[112, 117, 115, 104]⟩, .int .i64 1, .int .i64 0, .int .i64 1, .string ⟨#[108, 111, 97, 100]⟩, .int .i64 1, .int .i64 0, .int .i64 1, .string ⟨#[115, 116, 111, 114, 101]⟩, .int .i64 1, .int .i64 1, .int .i64 0, .string ⟨#[108, 111, 97, 100, 120]⟩, .int .i64 2, .int .i64 1, .int .i64 1, .string ⟨#[115, 116, 111, 114, 101, 120]⟩, .int .i64 2, .int .i64 2, .int .i64 0, .string ⟨#[116, 119, 111]⟩, .int .i64 1, .int .i64 2, .int .i64 1, .string ⟨#[110, 101, 103]⟩, .int .i64 0, .int .i64 1, .int .i64 1, .string ⟨#[110, 111, 116]⟩, .int .i64 0, .int .i64 1, .int .i64 1, .string ⟨#[98, 111, 111, 108]⟩, .int .i64 0, .int .i64 1, .int .i64 1, .string ⟨#[106, 117, 109, 112]⟩, .int .i64 1, .int .i64 0, .int .i64 0, .string ⟨#[122, 101, 114, 111]⟩, .int .i64 1, .int .i64 1, .int .i64 0, .string ⟨#[109, 97, 114, 107]⟩, .int .i64 1, .int .i64 0, .int .i64 0, .string ⟨#[101, 110, 100]⟩, .int .i64 0, .int .i64 0, .int .i64 0]
theorem zero14 (W : World) : (zeroValue 163).run Try.prog W = .ok (.agg opZ) W := by kernel_rfl
theorem build14 (W : World) : (Instr.build 163 #[(1, .agg #[.string ⟨#[112, 117, 115, 104]⟩, .int .i64 1, .int .i64 0, .int .i64 1]), (2, .agg #[.string ⟨#[108, 111, 97, 100]⟩, .int .i64 1, .int .i64 0, .int .i64 1]), (3, .agg #[.string ⟨#[115, 116, 111, 114, 101]⟩, .int .i64 1, .int .i64 1, .int .i64 0]), (4, .agg #[.string ⟨#[108, 111, 97, 100, 120]⟩, .int .i64 2, .int .i64 1, .int .i64 1]), (5, .agg #[.string ⟨#[115, 116, 111, 114, 101, 120]⟩, .int .i64 2, .int .i64 2, .int .i64 0]), (6, .agg #[.string ⟨#[116, 119, 111]⟩, .int .i64 1, .int .i64 2, .int .i64 1]), (7, .agg #[.string ⟨#[110, 101, 103]⟩, .int .i64 0, .int .i64 1, .int .i64 1]), (8, .agg #[.string ⟨#[110, 111, 116]⟩, .int .i64 0, .int .i64 1, .int .i64 1]), (9, .agg #[.string ⟨#[98, 111, 111, 108]⟩, .int .i64 0, .int .i64 1, .int .i64 1]), (10, .agg #[.string ⟨#[106, 117, 109, 112]⟩, .int .i64 1, .int .i64 0, .int .i64 0]), (11, .agg #[.string ⟨#[122, 101, 114, 111]⟩, .int .i64 1, .int .i64 1, .int .i64 0]), (12, .agg #[.string ⟨#[109, 97, 114, 107]⟩, .int .i64 1, .int .i64 0, .int .i64 0]), (13, .agg #[.string ⟨#[101, 110, 100]⟩, .int .i64 0, .int .i64 0, .int .i64 0])]).run Try.prog W = .ok (.agg opA) W := by kernel_rfl
theorem store14 (w : World) : (storeCells ⟨w.heap.size, 0, none⟩ opA.toList 0).run Try.prog (w.alloc (.cells opZ 163)) = .ok () (w.alloc (.cells opA 163)) :=
  run_storeCells_new w 163 opZ opA (by kernel_rfl) (by rfl) (by decide +kernel)
theorem store14' (w : World) (o : Obj) : (storeCells ⟨w.heap.size + 1, 0, none⟩ opA.toList 0).run Try.prog ((w.alloc o).alloc (.cells opZ 163)) = .ok () ((w.alloc o).alloc (.cells opA 163)) := by
  have := store14 (w.alloc o)
  simpa using this
abbrev OpOf (k : Int) (v : Value) : Prop := ∀ w : World, Calls Try.prog 117 #[.int .i64 k] w fun e w' => e = .returned v ∧ Below w.heap.size w w'
set_option maxHeartbeats 1600000 in
set_option maxRecDepth 100000 in
theorem op_k (k : Nat) (hk0 : (0 : Int) ≤ (k : Int)) (hk1 : (k : Int) < 14) (nm : ByteArray) (a t g : Int) (hv : ∀ j u, #[Value.string nm, .int .i64 a, .int .i64 t, .int .i64 g][j]? = some u → opA[k * 4 + j]? = some u) :
    OpOf k (opV nm a t g) := by
  intro w
  have hz := zero14
  have hb := build14
  have hst := store14'
  have hs : opA.size = 56 := rfl
  have hs0 : opZ.size = 56 := rfl
  generalize opA = A at *
  generalize opZ = Z at *
  have hc : ∀ j u, #[Value.string nm, .int .i64 a, .int .i64 t, .int .i64 g][j]? = some u → ((w.alloc (.cells #[.string ⟨#[]⟩, .int .i64 0, .int .i64 0, .int .i64 0] 142)).alloc (.cells A 163)).cell? ⟨w.heap.size + 1, k * 4 + j, none⟩ = some u := fun j u hj => by
    have e := heap_alloc_new (w.alloc (.cells #[.string ⟨#[]⟩, .int .i64 0, .int .i64 0, .int .i64 0] 142)) (.cells A 163)
    rw [show (w.alloc (.cells #[.string ⟨#[]⟩, .int .i64 0, .int .i64 0, .int .i64 0] 142)).heap.size = w.heap.size + 1 from by simp] at e
    rw [cell_of_row _ _ _ _ _ _ e]
    exact hv j u hj
  have c0 := hc 0 _ rfl
  have c1 := hc 1 _ rfl
  have c2 := hc 2 _ rfl
  have c3 := hc 3 _ rfl
  clear hc hv
  simp only [Nat.add_zero] at c0
  go_enter Try.func117, Try.ntmps117
  go_wp2_with (show Go.wpList _ _ _ (Go.Oper.mk _ (Go.Op.build 163 _) _ _ _ _ :: _) _ _; refine wpList_buildS _ rfl 163 _ rfl (.agg A) _ (by simp [go_sem]) (hb _) ?_)
  have e1 := heap_alloc_new w (.cells #[.string nm, .int .i64 a, .int .i64 t, .int .i64 g] 142)
  have e2 : ((w.alloc (.cells #[.string nm, .int .i64 a, .int .i64 t, .int .i64 g] 142)).alloc (.cells A 163)).heap[w.heap.size]? = _ := (Below.heap_alloc _ _ _ (by simp)).trans e1
  have hB : Below w.heap.size w ((w.alloc (.cells #[.string nm, .int .i64 a, .int .i64 t, .int .i64 g] 142)).alloc (.cells A 163)) := ((Below.refl _ _).alloc (Nat.le_refl _) _).alloc (by simp) _
  generalize ((w.alloc (.cells #[.string nm, .int .i64 a, .int .i64 t, .int .i64 g] 142)).alloc (.cells A 163)) = W at *
  have r0 : W.cell? ⟨w.heap.size, 0, none⟩ = some (.string nm) := cell_of_row _ _ 0 _ _ _ e2
  have r1 : W.cell? ⟨w.heap.size, 1, none⟩ = some (.int .i64 a) := cell_of_row _ _ 1 _ _ _ e2
  have r2 : W.cell? ⟨w.heap.size, 2, none⟩ = some (.int .i64 t) := cell_of_row _ _ 2 _ _ _ e2
  have r3 : W.cell? ⟨w.heap.size, 3, none⟩ = some (.int .i64 g) := cell_of_row _ _ 3 _ _ _ e2
  refine bodyPost_ret (v := opV nm a t g) (by simp [results, Try.results117, go_sem, r0, r1, r2, r3]) rfl ⟨rfl, hB⟩
/-- what an op is called -/
def opNm (op : Int) : List UInt8 := if op = 1 then [112, 117, 115, 104] else if op = 2 then [108, 111, 97, 100] else if op = 3 then [115, 116, 111, 114, 101] else if op = 4 then [108, 111, 97, 100, 120] else if op = 5 then [115, 116, 111, 114, 101, 120] else if op = 6 then [116, 119, 111] else if op = 7 then [110, 101, 103] else if op = 8 then [110, 111, 116] else if op = 9 then [98, 111, 111, 108] else if op = 10 then [106, 117, 109, 112] else if op = 11 then [122, 101, 114, 111] else if op = 12 then [109, 97, 114, 107] else [101, 110, 100]
theorem stackOp_any (op : Int) (h1 : 1 ≤ op) (h2 : op ≤ 13) : OpOf op (opV (bs (opNm op)) (argN op) (tkN op) (gvN op)) := by
  have hop : op = 1 ∨ op = 2 ∨ op = 3 ∨ op = 4 ∨ op = 5 ∨ op = 6 ∨ op = 7 ∨ op = 8 ∨ op = 9 ∨ op = 10 ∨ op = 11 ∨ op = 12 ∨ op = 13 := by omega
  rcases hop with rfl | rfl | rfl | rfl | rfl | rfl | rfl | rfl | rfl | rfl | rfl | rfl | rfl
  · exact op_k 1 (by omega) (by omega) _ _ _ _ (fun j u h => by
      match j, h with
      | 0, h => exact h
      | 1, h => exact h
      | 2, h => exact h
      | 3, h => exact h
      | j + 4, h => simp at h)
  · exact op_k 2 (by omega) (by omega) _ _ _ _ (fun j u h => by
      match j, h with
      | 0, h => exact h
      | 1, h => exact h
      | 2, h => exact h
      | 3, h => exact h
      | j + 4, h => simp at h)
  · exact op_k 3 (by omega) (by omega) _ _ _ _ (fun j u h => by
      match j, h with
      | 0, h => exact h
      | 1, h => exact h
      | 2, h => exact h
      | 3, h => exact h
      | j + 4, h => simp at h)
  · exact op_k 4 (by omega) (by omega) _ _ _ _ (fun j u h => by
      match j, h with
      | 0, h => exact h
      | 1, h => exact h
      | 2, h => exact h
      | 3, h => exact h
      | j + 4, h => simp at h)
  · exact op_k 5 (by omega) (by omega) _ _ _ _ (fun j u h => by
      match j, h with
      | 0, h => exact h
      | 1, h => exact h
      | 2, h => exact h
      | 3, h => exact h
      | j + 4, h => simp at h)
  · exact op_k 6 (by omega) (by omega) _ _ _ _ (fun j u h => by
      match j, h with
      | 0, h => exact h
      | 1, h => exact h
      | 2, h => exact h
      | 3, h => exact h
      | j + 4, h => simp at h)
  · exact op_k 7 (by omega) (by omega) _ _ _ _ (fun j u h => by
      match j, h with
      | 0, h => exact h
      | 1, h => exact h
      | 2, h => exact h
      | 3, h => exact h
      | j + 4, h => simp at h)
  · exact op_k 8 (by omega) (by omega) _ _ _ _ (fun j u h => by
      match j, h with
      | 0, h => exact h
      | 1, h => exact h
      | 2, h => exact h
      | 3, h => exact h
      | j + 4, h => simp at h)
  · exact op_k 9 (by omega) (by omega) _ _ _ _ (fun j u h => by
      match j, h with
      | 0, h => exact h
      | 1, h => exact h
      | 2, h => exact h
      | 3, h => exact h
      | j + 4, h => simp at h)
  · exact op_k 10 (by omega) (by omega) _ _ _ _ (fun j u h => by
      match j, h with
      | 0, h => exact h
      | 1, h => exact h
      | 2, h => exact h
      | 3, h => exact h
      | j + 4, h => simp at h)
  · exact op_k 11 (by omega) (by omega) _ _ _ _ (fun j u h => by
      match j, h with
      | 0, h => exact h
      | 1, h => exact h
      | 2, h => exact h
      | 3, h => exact h
      | j + 4, h => simp at h)
  · exact op_k 12 (by omega) (by omega) _ _ _ _ (fun j u h => by
      match j, h with
      | 0, h => exact h
      | 1, h => exact h
      | 2, h => exact h
      | 3, h => exact h
      | j + 4, h => simp at h)
  · exact op_k 13 (by omega) (by omega) _ _ _ _ (fun j u h => by
      match j, h with
      | 0, h => exact h
      | 1, h => exact h
      | 2, h => exact h
      | 3, h => exact h
      | j + 4, h => simp at h)
set_option maxHeartbeats 800000 in
theorem implArgs (op : Int) (w : World) : Calls Try.prog 116 #[.int .i64 op] w fun e w' => e = .returned (.agg #[.int .i64 (if inB op 1 13 then 0 else 3), .int .i64 (if inB op 1 13 then argN op else 0)]) ∧ Below w.heap.size w w' := by
  have HI : Hid (∀ W, Calls Try.prog 67 #[.int .i64 op, .int .i64 1, .int .i64 13] W fun e w' => e = .returned (.bool (inB op 1 13)) ∧ w' = W) := within_any op 1 13
  cases hq : inB op 1 13
  · rw [hq] at HI
    have hB : Below w.heap.size w (w.alloc (.cells #[.int .i64 3, .int .i64 0] 61)) := (Below.refl _ _).alloc (Nat.le_refl _) _
    go_enter Try.func116, Try.ntmps116
    go_wp2_with fail
    refine (HI.out _).mono ?_
    rintro e w1 ⟨rfl, rfl⟩
    go_wp2_with fail
    refine bodyPost_ret (v := .agg #[.int .i64 3, .int .i64 0]) (by simp [results, Try.results116, go_sem]) rfl ⟨rfl, ?_⟩
    go_grown
  · rw [hq] at HI
    have h12 := inB_iff.1 hq
    have HO : Hid (OpOf op (opV (bs (opNm op)) (argN op) (tkN op) (gvN op))) := stackOp_any op h12.1 h12.2
    clear h12 hq
    generalize argN op = A at *
    generalize tkN op = K at *
    generalize gvN op = G at *
    generalize bs (opNm op) = nm at *
    have hf : ∀ W, (Instr.field 142 (.agg #[.string nm, .int .i64 A, .int .i64 K, .int .i64 G]) 1).run Try.prog W = .ok (.int .i64 A) W := fun W => by kernel_rfl
    go_enter Try.func116, Try.ntmps116
    go_wp2_with fail
    refine (HI.out _).mono ?_
    rintro e w1 ⟨rfl, rfl⟩
    go_wp2_with fail
    have hB : Below w.heap.size w (w.alloc (.cells #[.int .i64 0, .int .i64 0] 61)) := (Below.refl _ _).alloc (Nat.le_refl _) _
    have hN := heap_alloc_new w (.cells #[.int .i64 0, .int .i64 0] 61)
    generalize w.alloc (.cells #[.int .i64 0, .int .i64 0] 61) = W at *
    refine (HO.out _).mono ?_
    rintro e w2 ⟨rfl, hb⟩
    have hN2 := blk8 hN hb
    have HB : Hid (Below w.heap.size w w2) := hB.trans (hb.mono hB.size)
    clear hN hb hB
    have r0 := cell_of_row _ _ 0 _ _ _ hN2
    have f0 := frozen_of_row _ _ 0 _ _ hN2
    have r1 := cell_of_row _ _ 1 _ _ _ hN2
    have f1 := frozen_of_row _ _ 1 _ _ hN2
    simp at r0 r1 f0 f1
    go_wp2_with fail
    refine bodyPost_ret (v := .agg #[.int .i64 0, .int .i64 A]) (by simp [results, Try.results116, go_sem, r0, r1]) rfl ⟨rfl, (HB.out.setCell (Nat.le_refl _) _).setCell (Nat.le_refl _) _⟩
end Go.Proofs.Ytcikofhbfncgdaa
namespace Go.Proofs.Ytcikofhbfncgdaa
open Go.RowKit
set_option linter.unusedVariables false
attribute [local go_sem ↓] Go.wp_at_zero Go.wp_at_succ

abbrev argsF : Value := .func (.func 116) #[] #[]
abbrev oneZ : Value := .agg #[.int .i64 0, .slice none 0 0, .int .i64 0]

set_option maxHeartbeats 1600000 in
theorem instr_no1 (a : Option Addr) (n c : Nat) (k : Nat) (w : World) (hk : n ≤ k) (hk2 : k ≤ 65535) (hn : n ≤ 400) :
    Calls Try.prog 108 #[.slice a n c, .int .i64 k, argsF] w fun e w' => e = .returned (.tuple #[oneZ, .bool false]) ∧ Below w.heap.size w w' := by
  have h1 : decide ((n : Int) ≤ (k : Int)) = true := decide_eq_true (by omega)
  go_enter Try.func108, Try.ntmps108
  go_wp2
  refine bodyPost_ret (v := .tuple #[oneZ, .bool false]) (by simp [results, Try.results108, go_sem]) rfl ⟨rfl, ?_⟩
  go_grown

/-- from the answer of ArgsOfStack on -/
theorem instr_pre (w w1 : World) (x y : Int) (hb : Below (w.alloc (.cells #[.int .i64 0, .slice none 0 0, .int .i64 0] 130)).heap.size (w.alloc (.cells #[.int .i64 0, .slice none 0 0, .int .i64 0] 130)) w1) :
    ∀ W, W = w1.alloc (.cells #[.int .i64 x, .int .i64 y] 61) → W.heap[w.heap.size]? = some (.cells #[.int .i64 0, .slice none 0 0, .int .i64 0] 130 (0, 0)) ∧ W.heap[w1.heap.size]? = some (.cells #[.int .i64 x, .int .i64 y] 61 (0, 0)) ∧ Below w.heap.size w W ∧ w.heap.size < w1.heap.size := by
  intro W e
  subst e
  have a1 := heap_alloc_new w (.cells #[.int .i64 0, .slice none 0 0, .int .i64 0] 130)
  have b1 := (Below.refl w.heap.size w).alloc (Nat.le_refl _) (.cells #[.int .i64 0, .slice none 0 0, .int .i64 0] 130)
  have a2 := heap_alloc_new w1 (.cells #[.int .i64 x, .int .i64 y] 61)
  have b2 := (Below.refl w1.heap.size w1).alloc (Nat.le_refl _) (.cells #[.int .i64 x, .int .i64 y] 61)
  have s1 : (w.alloc (.cells #[.int .i64 0, .slice none 0 0, .int .i64 0] 130)).heap.size = w.heap.size + 1 := by simp
  have hs := hb.size
  exact ⟨blk8 (blk8 a1 hb) b2, a2, b1.trans ((hb.mono (by omega)).trans (b2.mono (by omega))), by omega⟩

set_option maxHeartbeats 3200000 in
theorem instr_no2 (b off n c : Nat) (k : Nat) (op : Int) (w : World) (hk : k < n) (hn : n ≤ 400) (hop : w.cell? ⟨b, off + k, none⟩ = some (.int .i64 op)) (h : inB op 1 13 = false ∨ (inB op 1 13 = true ∧ (n : Int) ≤ k + argN op)) :
    Calls Try.prog 108 #[.slice (some ⟨b, off, none⟩) n c, .int .i64 k, argsF] w fun e w' => e = .returned (.tuple #[oneZ, .bool false]) ∧ Below w.heap.size w w' := by
  have HA : Hid (∀ W, Calls Try.prog 116 #[.int .i64 op] W fun e w' => e = .returned (.agg #[.int .i64 (if inB op 1 13 then 0 else 3), .int .i64 (if inB op 1 13 then argN op else 0)]) ∧ Below W.heap.size W w') := implArgs op
  have ha := argN_lo op
  generalize argN op = A at *
  obtain ⟨A0, A1⟩ := ha
  have hlt : decide ((n : Int) ≤ (k : Int)) = false := decide_eq_false (by omega)
  have hbl := World.block_lt_of_cell? _ _ hop
  have q0 : (0 : Int) ≤ (k : Int) := by omega
  have q1 : (k : Int) < (n : Int) := by omega
  rcases h with h | ⟨h, h2⟩
  · rw [h, if_neg (by simp), if_neg (by simp)] at HA
    clear h
    go_enter Try.func108, Try.ntmps108
    go_wp2_with fail
    refine (HA.out _).mono ?_
    rintro e w1 ⟨rfl, hb⟩
    have HP : Hid (∀ W, W = w1.alloc (.cells #[.int .i64 3, .int .i64 0] 61) → _) := instr_pre w w1 3 0 hb
    clear hb HA
    go_upto_region 5 with fail
    have hp := HP.out _ rfl
    generalize w1.alloc (.cells #[.int .i64 3, .int .i64 0] 61) = W at *
    obtain ⟨p1, p2, p3, p4⟩ := hp
    have HB : Hid (Below w.heap.size w W) := p3
    have x0 := cell_of_row _ _ 0 _ _ _ p2
    have x1 := cell_of_row _ _ 1 _ _ _ p2
    have y0 := cell_of_row _ _ 0 _ _ _ p1
    have y1 := cell_of_row _ _ 1 _ _ _ p1
    have y2 := cell_of_row _ _ 2 _ _ _ p1
    have g0 := frozen_of_row _ _ 0 _ _ p1
    have g1 := frozen_of_row _ _ 1 _ _ p1
    have g2 := frozen_of_row _ _ 2 _ _ p1
    simp at x0 x1 y0 y1 y2
    clear HP p1 p2 p3 p4 hop
    generalize w1.heap.size = g at *
    go_wp2_with fail
    refine bodyPost_ret (v := .tuple #[oneZ, .bool false]) (by simp [results, Try.results108, go_sem, y0, y1, y2]) rfl ⟨rfl, ?_⟩
    exact ((HB.out.setCell (Nat.le_refl _) _).setCell (Nat.le_refl _) _).setCell (Nat.le_refl _) _
  · rw [h, if_pos rfl, if_pos rfl] at HA
    clear h
    have hgt : decide ((n : Int) < (k : Int) + 1 + A) = true := decide_eq_true (by omega)
    go_enter Try.func108, Try.ntmps108
    go_wp2_with fail
    refine (HA.out _).mono ?_
    rintro e w1 ⟨rfl, hb⟩
    have HP : Hid (∀ W, W = w1.alloc (.cells #[.int .i64 0, .int .i64 A] 61) → _) := instr_pre w w1 0 A hb
    clear hb HA
    go_upto_region 5 with fail
    have hp := HP.out _ rfl
    generalize w1.alloc (.cells #[.int .i64 0, .int .i64 A] 61) = W at *
    obtain ⟨p1, p2, p3, p4⟩ := hp
    have HB : Hid (Below w.heap.size w W) := p3
    have x0 := cell_of_row _ _ 0 _ _ _ p2
    have x1 := cell_of_row _ _ 1 _ _ _ p2
    have y0 := cell_of_row _ _ 0 _ _ _ p1
    have y1 := cell_of_row _ _ 1 _ _ _ p1
    have y2 := cell_of_row _ _ 2 _ _ _ p1
    have g0 := frozen_of_row _ _ 0 _ _ p1
    have g1 := frozen_of_row _ _ 1 _ _ p1
    have g2 := frozen_of_row _ _ 2 _ _ p1
    simp at x0 x1 y0 y1 y2
    clear HP p1 p2 p3 p4 hop
    generalize w1.heap.size = g at *
    go_wp2_with fail
    refine bodyPost_ret (v := .tuple #[oneZ, .bool false]) (by simp [results, Try.results108, go_sem, y0, y1, y2]) rfl ⟨rfl, ?_⟩
    exact ((HB.out.setCell (Nat.le_refl _) _).setCell (Nat.le_refl _) _).setCell (Nat.le_refl _) _

set_option maxHeartbeats 3200000 in
set_option maxRecDepth 100000 in
theorem instr_yes (b off n c : Nat) (k A : Nat) (op : Int) (w : World) (hk : k < n) (hn : n ≤ 400) (hc : n ≤ c) (hop : w.cell? ⟨b, off + k, none⟩ = some (.int .i64 op)) (h : inB op 1 13 = true) (hA : argN op = A) (h2 : k + A < n) :
    Calls Try.prog 108 #[.slice (some ⟨b, off, none⟩) n c, .int .i64 k, argsF] w fun e w' => ∃ a2 c2, e = .returned (.tuple #[oneV op (.slice a2 A c2) ((k : Int) + 1 + A), .bool true]) ∧ (1 ≤ A → a2 = some ⟨b, off + (k + 1), none⟩) ∧ Below w.heap.size w w' := by
  have HA : Hid (∀ W, Calls Try.prog 116 #[.int .i64 op] W fun e w' => e = .returned (.agg #[.int .i64 (if inB op 1 13 then 0 else 3), .int .i64 (if inB op 1 13 then argN op else 0)]) ∧ Below W.heap.size W w') := implArgs op
  rw [h, if_pos rfl, if_pos rfl, hA] at HA
  have ha := argN_lo op
  rw [hA] at ha
  clear h hA
  have hlt : decide ((n : Int) ≤ (k : Int)) = false := decide_eq_false (by omega)
  have hbl := World.block_lt_of_cell? _ _ hop
  have q0 : (0 : Int) ≤ (k : Int) := by omega
  have q1 : (k : Int) < (n : Int) := by omega
  have A0 : (0 : Int) ≤ (A : Int) := by omega
  have A1 : (A : Int) ≤ 2 := ha.2
  clear ha
  have hgt : decide ((n : Int) < (k : Int) + 1 + A) = false := decide_eq_false (by omega)
  go_enter Try.func108, Try.ntmps108
  go_wp2_with fail
  refine (HA.out _).mono ?_
  rintro e w1 ⟨rfl, hb⟩
  have HP : Hid (∀ W, W = w1.alloc (.cells #[.int .i64 0, .int .i64 A] 61) → _) := instr_pre w w1 0 A hb
  clear hb HA
  go_upto_region 5 with fail
  have hp := HP.out _ rfl
  generalize w1.alloc (.cells #[.int .i64 0, .int .i64 A] 61) = W at *
  obtain ⟨p1, p2, p3, p4⟩ := hp
  have hop2 : W.cell? ⟨b, off + k, none⟩ = some (.int .i64 op) := (p3.cell (p := ⟨b, off + k, none⟩) hbl).trans hop
  have HB : Hid (Below w.heap.size w W) := p3
  have x0 := cell_of_row _ _ 0 _ _ _ p2
  have x1 := cell_of_row _ _ 1 _ _ _ p2
  have y0 := cell_of_row _ _ 0 _ _ _ p1
  have y1 := cell_of_row _ _ 1 _ _ _ p1
  have y2 := cell_of_row _ _ 2 _ _ _ p1
  have g0 := frozen_of_row _ _ 0 _ _ p1
  have g1 := frozen_of_row _ _ 1 _ _ p1
  have g2 := frozen_of_row _ _ 2 _ _ p1
  simp at x0 x1 y0 y1 y2
  clear HP p1 p2 p3 p4 hop
  generalize w1.heap.size = g at *
  go_upto_region 8 with fail
  obtain ⟨L, hL⟩ : ∃ L : Nat, L = k + 1 := ⟨_, rfl⟩
  obtain ⟨N, hN⟩ : ∃ N : Nat, N = k + 1 + A := ⟨_, rfl⟩
  have e1 : (k : Int) + 1 + (A : Int) = (N : Int) := by omega
  have z1 : IntKind.i64.wrap ((k : Int) + 1) = (L : Int) := by rw [IntWalk.i64_in _ ⟨by omega, by omega⟩]; omega
  rw [e1]
  have r0 : (0 : Int) ≤ (L : Int) := by omega
  have r1 : (L : Int) ≤ (N : Int) := by omega
  have r2 : (N : Int) ≤ (c : Int) := by omega
  have HN : Hid (N - L = A ∧ L = k + 1 ∧ N = k + 1 + A) := ⟨by omega, hL, hN⟩
  have e2 : N - L = A := HN.out.1
  have HE0 : (k : Int) + 1 + (A : Int) = (N : Int) ∧ n ≤ c ∧ k + A < n := ⟨e1, hc, h2⟩
  clear hL hN e1 hgt hlt hk h2 hn
  have HE : Hid ((k : Int) + 1 + (A : Int) = (N : Int) ∧ n ≤ c ∧ k + A < n) := HE0
  clear HE0 hc
  by_cases hcL : c = L
  · go_region
    go_wp2_with fail
    refine bodyPost_ret (v := .tuple #[oneV op (.slice (some ⟨b, off, none⟩) A 0) N, .bool true]) (by simp [results, Try.results108, go_sem, y0, y1, y2]) rfl ⟨_, _, by rw [HE.out.1], fun h => ?_, ?_⟩
    · have := HN.out; have := HE.out; omega
    · first | exact (((HB.out.setCell (Nat.le_refl _) _).setCell (Nat.le_refl _) _).setCell (Nat.le_refl _) _).drew | exact ((HB.out.setCell (Nat.le_refl _) _).setCell (Nat.le_refl _) _).setCell (Nat.le_refl _) _
  · go_region
    go_wp2_with fail
    refine bodyPost_ret (v := .tuple #[oneV op (.slice (some ⟨b, off + L, none⟩) A (c - L)) N, .bool true]) (by simp [results, Try.results108, go_sem, y0, y1, y2]) rfl ⟨_, _, by rw [HE.out.1], fun h => ?_, ?_⟩
    · rw [HN.out.2.1]
    · first | exact (((HB.out.setCell (Nat.le_refl _) _).setCell (Nat.le_refl _) _).setCell (Nat.le_refl _) _).drew | exact ((HB.out.setCell (Nat.le_refl _) _).setCell (Nat.le_refl _) _).setCell (Nat.le_refl _) _
end Go.Proofs.Ytcikofhbfncgdaa
