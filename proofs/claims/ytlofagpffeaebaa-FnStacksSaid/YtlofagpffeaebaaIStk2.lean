/-
  impl's cellAt, cell, item.
-/
import Derived.Test.YtlofagpffeaebaaIStk1
import Derived.Deep.Cut
namespace Go.Proofs.Ytlofagpffeaebaa
open Go.RowKit
set_option linter.unusedVariables false

abbrev ir (c v : Int) : Value := .agg #[.int .i64 c, .int .i64 v]

set_option maxHeartbeats 1600000 in
theorem cellAt_any (f s i : Int) (w : World) (hf0 : 0 ≤ f) (hf1 : f ≤ 65535) (hs0 : 0 ≤ s) (hs1 : s ≤ 65535) :
    Calls Try.prog 118 #[.int .i64 f, .int .i64 s, .int .i64 i] w fun e w' => e = .returned (ir (if inB (sg i) 0 (s - 1) then 0 else 3) (if inB (sg i) 0 (s - 1) then f + sg i else 0)) ∧ Below w.heap.size w w' := by
  have HS : Hid (∀ W, Calls Try.prog 132 #[.int .i64 i] W fun e w' => e = .returned (.int .i64 (sg i)) ∧ w' = W) := implSignedOf i
  have h1 := sg_lo i
  have h2 := sg_hi i
  generalize sg i = k at *
  have HI : Hid (∀ W, Calls Try.prog 39 #[.int .i64 k, .int .i64 0, .int .i64 (s - 1)] W fun e w' => e = .returned (.bool (inB k 0 (s - 1))) ∧ w' = W) := within_any k 0 (s - 1)
  cases hq : inB k 0 (s - 1)
  · rw [hq] at HI
    clear hq
    go_enter Try.func118, Try.ntmps118
    go_wp2_with fail
    refine (HS.out _).mono ?_
    rintro e w1 ⟨rfl, rfl⟩
    go_wp2_with fail
    refine (HI.out _).mono ?_
    rintro e w1 ⟨rfl, rfl⟩
    go_wp2_with fail
    refine bodyPost_ret (v := ir 3 0) (by simp [results, Try.results118, go_sem]) rfl ⟨rfl, ?_⟩
    go_grown
  · rw [hq] at HI
    clear hq
    go_enter Try.func118, Try.ntmps118
    go_wp2_with fail
    refine (HS.out _).mono ?_
    rintro e w1 ⟨rfl, rfl⟩
    go_wp2_with fail
    refine (HI.out _).mono ?_
    rintro e w1 ⟨rfl, rfl⟩
    go_wp2_with fail
    refine bodyPost_ret (v := ir 0 (f + k)) (by simp [results, Try.results118, go_sem]) rfl ⟨rfl, ?_⟩
    go_grown

set_option maxHeartbeats 1600000 in
theorem cell_any (B p : Nat) (m : SM) (u : Int) (w : World) (h : RunI B w p m) (hl : m.cells.length ≤ 80) (hu : 0 ≤ u) :
    Calls Try.prog 99 #[.pointer (some ⟨p, 1, none⟩), .int .i64 u] w fun e w' => e = .returned (ir (cellC m.cells.length u) (cellV m.cells.length u)) ∧ Below w.heap.size w w' := by
  obtain ⟨sv, cv, hb, hm⟩ := h
  obtain ⟨a, c, rfl⟩ := own_shape hm.cs
  have c1 := (RunI.cells (B := B) hb).2.1
  have hp := (Array.getElem?_eq_some_iff.1 hb).1
  have hne := World.new_ne w ⟨p, 1, none⟩ c1
  have HC : Hid (∀ n : Nat, cellC n u = (if u < n then 0 else 1) ∧ cellV n u = (if u < n then u else 0)) := fun n => ⟨rfl, rfl⟩
  clear hm hb
  generalize hn : m.cells.length = n at *
  clear hn
  have HI : Hid (∀ W, Calls Try.prog 39 #[.int .i64 u, .int .i64 0, .int .i64 (n - 1)] W fun e w' => e = .returned (.bool (inB u 0 (n - 1))) ∧ w' = W) := within_any u 0 (n - 1)
  by_cases hlt : u < n
  · have hq : inB u 0 ((n : Int) - 1) = true := inB_iff.2 ⟨hu, by omega⟩
    rw [hq] at HI
    rw [(HC.out n).1, (HC.out n).2, if_pos hlt, if_pos hlt]
    clear hq HC hlt
    go_enter Try.func99, Try.ntmps99
    go_wp2_with fail
    refine (HI.out _).mono ?_
    rintro e w1 ⟨rfl, rfl⟩
    go_wp2_with fail
    refine bodyPost_ret (v := ir 0 u) (by simp [results, Try.results99, go_sem]) rfl ⟨rfl, ?_⟩
    go_grown
  · have hq : inB u 0 ((n : Int) - 1) = false := inB_no.2 (by omega)
    rw [hq] at HI
    rw [(HC.out n).1, (HC.out n).2, if_neg hlt, if_neg hlt]
    clear hq HC hlt
    go_enter Try.func99, Try.ntmps99
    go_wp2_with fail
    refine (HI.out _).mono ?_
    rintro e w1 ⟨rfl, rfl⟩
    go_wp2_with fail
    refine bodyPost_ret (v := ir 1 0) (by simp [results, Try.results99, go_sem]) rfl ⟨rfl, ?_⟩
    go_grown

set_option maxHeartbeats 1600000 in
theorem item_any (B p : Nat) (m : SM) (f s i : Int) (w : World) (h : RunI B w p m) (hl : m.cells.length ≤ 80) (hf0 : 0 ≤ f) (hf1 : f ≤ 65535) (hs0 : 0 ≤ s) (hs1 : s ≤ 65535) :
    Calls Try.prog 100 #[.pointer (some ⟨p, 1, none⟩), .int .i64 f, .int .i64 s, .int .i64 i] w fun e w' => e = .returned (ir (itemC m.cells.length f s i) (itemV m.cells.length f s i)) ∧ Below w.heap.size w w' := by
  have HA : Hid (∀ W, Calls Try.prog 118 #[.int .i64 f, .int .i64 s, .int .i64 i] W fun e w' => e = .returned (ir (if inB (sg i) 0 (s - 1) then 0 else 3) (if inB (sg i) 0 (s - 1) then f + sg i else 0)) ∧ Below W.heap.size W w') := fun W => cellAt_any f s i W hf0 hf1 hs0 hs1
  have h1 := sg_lo i
  have h2 := sg_hi i
  have HE : Hid (∀ n : Nat, (itemC n f s i = if inB (sg i) 0 (s - 1) then (if f + sg i < n then 0 else 1) else 3) ∧ (itemV n f s i = if itemC n f s i = 0 then f + sg i else 0)) := fun n => ⟨rfl, rfl⟩
  have HR : Hid (RunI B w p m) := h
  have hB0 : Below w.heap.size w (w.alloc (.cells #[.int .i64 0, .int .i64 0] 29)) := (Below.refl _ _).alloc (Nat.le_refl _) _
  have hN0 := heap_alloc_new w (.cells #[.int .i64 0, .int .i64 0] 29)
  have HB0 : Hid (Below w.heap.size w (w.alloc (.cells #[.int .i64 0, .int .i64 0] 29))) := hB0
  have HN0 : Hid ((w.alloc (.cells #[.int .i64 0, .int .i64 0] 29)).heap[w.heap.size]? = some (.cells #[.int .i64 0, .int .i64 0] 29 (0, 0))) := hN0
  clear h hB0 hN0
  generalize sg i = k at *
  cases hq : inB k 0 (s - 1)
  · have e3 : Hid (∀ n : Nat, itemC n f s i = 3 ∧ itemV n f s i = 0) := fun n => by
      have e : itemC n f s i = 3 := by rw [(HE.out n).1, hq, if_neg (by simp)]
      exact ⟨e, by rw [(HE.out n).2, e, if_neg (by omega)]⟩
    rw [hq, if_neg (by simp), if_neg (by simp)] at HA
    rw [(e3.out _).1, (e3.out _).2]
    clear HE hq e3
    go_enter Try.func100, Try.ntmps100
    go_wp2_with fail
    generalize w.alloc (.cells #[.int .i64 0, .int .i64 0] 29) = W at *
    refine (HA.out _).mono ?_
    rintro e w1 ⟨rfl, hb⟩
    have hN1 := blk8 HN0.out hb
    have HB1 : Hid (Below w.heap.size w w1) := HB0.out.trans (hb.mono HB0.out.size)
    have hlt : w.heap.size < w1.heap.size := (Array.getElem?_eq_some_iff.1 hN1).1
    clear hb HB0 HN0 HA HR
    go_upto_region 3 with fail
    have a1 := heap_alloc_new w1 (.cells #[.int .i64 3, .int .i64 0] 29)
    have b1 : Below w1.heap.size w1 (w1.alloc (.cells #[.int .i64 3, .int .i64 0] 29)) := (Below.refl _ _).alloc (Nat.le_refl _) _
    have hN2 := blk8 hN1 b1
    have HB2 : Hid (Below w.heap.size w (w1.alloc (.cells #[.int .i64 3, .int .i64 0] 29))) := HB1.out.trans (b1.mono (by omega))
    clear hN1 HB1 b1
    generalize w1.alloc (.cells #[.int .i64 3, .int .i64 0] 29) = W2 at *
    have r0 := cell_of_row _ _ 0 _ _ _ hN2
    have f0 := frozen_of_row _ _ 0 _ _ hN2
    have r1 := cell_of_row _ _ 1 _ _ _ hN2
    have f1 := frozen_of_row _ _ 1 _ _ hN2
    have q0 := cell_of_row _ _ 0 _ _ _ a1
    have q1 := cell_of_row _ _ 1 _ _ _ a1
    simp at r0 r1 f0 f1 q0 q1
    go_wp2_with fail
    refine bodyPost_ret (v := ir 3 0) (by simp [results, Try.results100, go_sem, r0, r1]) rfl ⟨rfl, ?_⟩
    exact (HB2.out.setCell (Nat.le_refl _) _).setCell (Nat.le_refl _) _
  · have hk := inB_iff.1 hq
    rw [hq, if_pos rfl, if_pos rfl] at HA
    have HCE : Hid (∀ n : Nat, itemC n f s i = cellC n (f + k) ∧ itemV n f s i = cellV n (f + k)) := fun n => by
      have e : itemC n f s i = cellC n (f + k) := by rw [(HE.out n).1, hq, if_pos rfl]; rfl
      refine ⟨e, ?_⟩
      rw [(HE.out n).2, e]
      unfold cellC cellV
      by_cases h : f + k < n
      · rw [if_pos h, if_pos rfl, if_pos h]
      · rw [if_neg h, if_neg (by omega), if_neg h]
    rw [(HCE.out _).1, (HCE.out _).2]
    have HCL : Hid (∀ W, RunI B W p m → Calls Try.prog 99 #[.pointer (some ⟨p, 1, none⟩), .int .i64 (f + k)] W fun e w' => e = .returned (ir (cellC m.cells.length (f + k)) (cellV m.cells.length (f + k))) ∧ Below W.heap.size W w') := fun W hr => cell_any B p m (f + k) W hr hl (by omega)
    clear HE hq HCE
    generalize cellC m.cells.length (f + k) = C at *
    generalize cellV m.cells.length (f + k) = V at *
    go_enter Try.func100, Try.ntmps100
    go_wp2_with fail
    generalize w.alloc (.cells #[.int .i64 0, .int .i64 0] 29) = W at *
    refine (HA.out _).mono ?_
    rintro e w1 ⟨rfl, hb⟩
    have hN1 := blk8 HN0.out hb
    have HB1 : Hid (Below w.heap.size w w1) := HB0.out.trans (hb.mono HB0.out.size)
    have HR1 : Hid (RunI B w1 p m) := HR.out.kept HB1.out
    have hlt : w.heap.size < w1.heap.size := (Array.getElem?_eq_some_iff.1 hN1).1
    clear hb HB0 HN0 HA HR
    have a1 := heap_alloc_new w1 (.cells #[.int .i64 0, .int .i64 (f + k)] 29)
    have b1 : Below w1.heap.size w1 (w1.alloc (.cells #[.int .i64 0, .int .i64 (f + k)] 29)) := (Below.refl _ _).alloc (Nat.le_refl _) _
    have HR2 : Hid (RunI B (w1.alloc (.cells #[.int .i64 0, .int .i64 (f + k)] 29)) p m) := HR1.out.kept b1
    have hN2 := blk8 hN1 b1
    have HB2 : Hid (Below w.heap.size w (w1.alloc (.cells #[.int .i64 0, .int .i64 (f + k)] 29))) := HB1.out.trans (b1.mono (by omega))
    clear hN1 HB1 HR1 a1 b1
    go_wp2_with fail
    generalize w1.alloc (.cells #[.int .i64 0, .int .i64 (f + k)] 29) = W2 at *
    refine (HCL.out _ HR2.out).mono ?_
    rintro e w3 ⟨rfl, hb⟩
    have hN3 := blk8 hN2 hb
    have HB3 : Hid (Below w.heap.size w w3) := HB2.out.trans (hb.mono HB2.out.size)
    clear hb HB2 HR2 hN2 HCL
    have r0 := cell_of_row _ _ 0 _ _ _ hN3
    have f0 := frozen_of_row _ _ 0 _ _ hN3
    have r1 := cell_of_row _ _ 1 _ _ _ hN3
    have f1 := frozen_of_row _ _ 1 _ _ hN3
    simp at r0 r1 f0 f1
    go_wp2_with fail
    refine bodyPost_ret (v := ir C V) (by simp [results, Try.results100, go_sem, r0, r1]) rfl ⟨rfl, ?_⟩
    exact (HB3.out.setCell (Nat.le_refl _) _).setCell (Nat.le_refl _) _
end Go.Proofs.Ytlofagpffeaebaa
