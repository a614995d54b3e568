/-
  impl's instructionAt.
-/
import Derived.Test.YtlofagpffeaebaaIStk3
import Derived.Test.YtlofagpffeaebaaIStkOp
namespace Go.Proofs.Ytlofagpffeaebaa
open Go.RowKit
set_option linter.unusedVariables false
attribute [local go_sem ↓] Go.wp_at_zero Go.wp_at_succ

abbrev argsF : Value := .func (.func 79) #[] #[]
abbrev oneZ : Value := .agg #[.int .i64 0, .slice none 0 0, .int .i64 0]

set_option maxHeartbeats 1600000 in
theorem instr_no1 (a : Option Addr) (n c : Nat) (k : Nat) (w : World) (hk : n ≤ k) (hk2 : k ≤ 65535) (hn : n ≤ 400) :
    Calls Try.prog 78 #[.slice a n c, .int .i64 k, argsF] w fun e w' => e = .returned (.tuple #[oneZ, .bool false]) ∧ Below w.heap.size w w' := by
  have h1 : decide ((n : Int) ≤ (k : Int)) = true := decide_eq_true (by omega)
  go_enter Try.func78, Try.ntmps78
  go_wp2
  refine bodyPost_ret (v := .tuple #[oneZ, .bool false]) (by simp [results, Try.results78, go_sem]) rfl ⟨rfl, ?_⟩
  go_grown

/-- from the answer of ArgsOfStack on -/
theorem instr_pre (w w1 : World) (x y : Int) (hb : Below (w.alloc (.cells #[.int .i64 0, .slice none 0 0, .int .i64 0] 118)).heap.size (w.alloc (.cells #[.int .i64 0, .slice none 0 0, .int .i64 0] 118)) w1) :
    ∀ W, W = w1.alloc (.cells #[.int .i64 x, .int .i64 y] 29) → W.heap[w.heap.size]? = some (.cells #[.int .i64 0, .slice none 0 0, .int .i64 0] 118 (0, 0)) ∧ W.heap[w1.heap.size]? = some (.cells #[.int .i64 x, .int .i64 y] 29 (0, 0)) ∧ Below w.heap.size w W ∧ w.heap.size < w1.heap.size := by
  intro W e
  subst e
  have a1 := heap_alloc_new w (.cells #[.int .i64 0, .slice none 0 0, .int .i64 0] 118)
  have b1 := (Below.refl w.heap.size w).alloc (Nat.le_refl _) (.cells #[.int .i64 0, .slice none 0 0, .int .i64 0] 118)
  have a2 := heap_alloc_new w1 (.cells #[.int .i64 x, .int .i64 y] 29)
  have b2 := (Below.refl w1.heap.size w1).alloc (Nat.le_refl _) (.cells #[.int .i64 x, .int .i64 y] 29)
  have s1 : (w.alloc (.cells #[.int .i64 0, .slice none 0 0, .int .i64 0] 118)).heap.size = w.heap.size + 1 := by simp
  have hs := hb.size
  exact ⟨blk8 (blk8 a1 hb) b2, a2, b1.trans ((hb.mono (by omega)).trans (b2.mono (by omega))), by omega⟩

set_option maxHeartbeats 3200000 in
theorem instr_no2 (b off n c : Nat) (k : Nat) (op : Int) (w : World) (hk : k < n) (hn : n ≤ 400) (hop : w.cell? ⟨b, off + k, none⟩ = some (.int .i64 op)) (h : inB op 1 13 = false ∨ (inB op 1 13 = true ∧ (n : Int) ≤ k + argN op)) :
    Calls Try.prog 78 #[.slice (some ⟨b, off, none⟩) n c, .int .i64 k, argsF] w fun e w' => e = .returned (.tuple #[oneZ, .bool false]) ∧ Below w.heap.size w w' := by
  have HA : Hid (∀ W, Calls Try.prog 79 #[.int .i64 op] W fun e w' => e = .returned (.agg #[.int .i64 (if inB op 1 13 then 0 else 3), .int .i64 (if inB op 1 13 then argN op else 0)]) ∧ Below W.heap.size W w') := implArgs op
  have ha := argN_lo op
  generalize argN op = A at *
  obtain ⟨A0, A1⟩ := ha
  have hlt : decide ((n : Int) ≤ (k : Int)) = false := decide_eq_false (by omega)
  have hbl := World.block_lt_of_cell? _ _ hop
  have q0 : (0 : Int) ≤ (k : Int) := by omega
  have q1 : (k : Int) < (n : Int) := by omega
  rcases h with h | ⟨h, h2⟩
  · rw [h, if_neg (by simp), if_neg (by simp)] at HA
    clear h
    go_enter Try.func78, Try.ntmps78
    go_wp2_with fail
    refine (HA.out _).mono ?_
    rintro e w1 ⟨rfl, hb⟩
    have HP : Hid (∀ W, W = w1.alloc (.cells #[.int .i64 3, .int .i64 0] 29) → _) := instr_pre w w1 3 0 hb
    clear hb HA
    go_upto_region 5 with fail
    have hp := HP.out _ rfl
    generalize w1.alloc (.cells #[.int .i64 3, .int .i64 0] 29) = W at *
    obtain ⟨p1, p2, p3, p4⟩ := hp
    have HB : Hid (Below w.heap.size w W) := p3
    have x0 := cell_of_row _ _ 0 _ _ _ p2
    have x1 := cell_of_row _ _ 1 _ _ _ p2
    have y0 := cell_of_row _ _ 0 _ _ _ p1
    have y1 := cell_of_row _ _ 1 _ _ _ p1
    have y2 := cell_of_row _ _ 2 _ _ _ p1
    have g0 := frozen_of_row _ _ 0 _ _ p1
    have g1 := frozen_of_row _ _ 1 _ _ p1
    have g2 := frozen_of_row _ _ 2 _ _ p1
    simp at x0 x1 y0 y1 y2
    clear HP p1 p2 p3 p4 hop
    generalize w1.heap.size = g at *
    go_wp2_with fail
    refine bodyPost_ret (v := .tuple #[oneZ, .bool false]) (by simp [results, Try.results78, go_sem, y0, y1, y2]) rfl ⟨rfl, ?_⟩
    exact ((HB.out.setCell (Nat.le_refl _) _).setCell (Nat.le_refl _) _).setCell (Nat.le_refl _) _
  · rw [h, if_pos rfl, if_pos rfl] at HA
    clear h
    have hgt : decide ((n : Int) < (k : Int) + 1 + A) = true := decide_eq_true (by omega)
    go_enter Try.func78, Try.ntmps78
    go_wp2_with fail
    refine (HA.out _).mono ?_
    rintro e w1 ⟨rfl, hb⟩
    have HP : Hid (∀ W, W = w1.alloc (.cells #[.int .i64 0, .int .i64 A] 29) → _) := instr_pre w w1 0 A hb
    clear hb HA
    go_upto_region 5 with fail
    have hp := HP.out _ rfl
    generalize w1.alloc (.cells #[.int .i64 0, .int .i64 A] 29) = W at *
    obtain ⟨p1, p2, p3, p4⟩ := hp
    have HB : Hid (Below w.heap.size w W) := p3
    have x0 := cell_of_row _ _ 0 _ _ _ p2
    have x1 := cell_of_row _ _ 1 _ _ _ p2
    have y0 := cell_of_row _ _ 0 _ _ _ p1
    have y1 := cell_of_row _ _ 1 _ _ _ p1
    have y2 := cell_of_row _ _ 2 _ _ _ p1
    have g0 := frozen_of_row _ _ 0 _ _ p1
    have g1 := frozen_of_row _ _ 1 _ _ p1
    have g2 := frozen_of_row _ _ 2 _ _ p1
    simp at x0 x1 y0 y1 y2
    clear HP p1 p2 p3 p4 hop
    generalize w1.heap.size = g at *
    go_wp2_with fail
    refine bodyPost_ret (v := .tuple #[oneZ, .bool false]) (by simp [results, Try.results78, go_sem, y0, y1, y2]) rfl ⟨rfl, ?_⟩
    exact ((HB.out.setCell (Nat.le_refl _) _).setCell (Nat.le_refl _) _).setCell (Nat.le_refl _) _

set_option maxHeartbeats 3200000 in
set_option maxRecDepth 100000 in
theorem instr_yes (b off n c : Nat) (k A : Nat) (op : Int) (w : World) (hk : k < n) (hn : n ≤ 400) (hc : n ≤ c) (hop : w.cell? ⟨b, off + k, none⟩ = some (.int .i64 op)) (h : inB op 1 13 = true) (hA : argN op = A) (h2 : k + A < n) :
    Calls Try.prog 78 #[.slice (some ⟨b, off, none⟩) n c, .int .i64 k, argsF] w fun e w' => ∃ a2 c2, e = .returned (.tuple #[oneV op (.slice a2 A c2) ((k : Int) + 1 + A), .bool true]) ∧ (1 ≤ A → a2 = some ⟨b, off + (k + 1), none⟩) ∧ Below w.heap.size w w' := by
  have HA : Hid (∀ W, Calls Try.prog 79 #[.int .i64 op] W fun e w' => e = .returned (.agg #[.int .i64 (if inB op 1 13 then 0 else 3), .int .i64 (if inB op 1 13 then argN op else 0)]) ∧ Below W.heap.size W w') := implArgs op
  rw [h, if_pos rfl, if_pos rfl, hA] at HA
  have ha := argN_lo op
  rw [hA] at ha
  clear h hA
  have hlt : decide ((n : Int) ≤ (k : Int)) = false := decide_eq_false (by omega)
  have hbl := World.block_lt_of_cell? _ _ hop
  have q0 : (0 : Int) ≤ (k : Int) := by omega
  have q1 : (k : Int) < (n : Int) := by omega
  have A0 : (0 : Int) ≤ (A : Int) := by omega
  have A1 : (A : Int) ≤ 2 := ha.2
  clear ha
  have hgt : decide ((n : Int) < (k : Int) + 1 + A) = false := decide_eq_false (by omega)
  go_enter Try.func78, Try.ntmps78
  go_wp2_with fail
  refine (HA.out _).mono ?_
  rintro e w1 ⟨rfl, hb⟩
  have HP : Hid (∀ W, W = w1.alloc (.cells #[.int .i64 0, .int .i64 A] 29) → _) := instr_pre w w1 0 A hb
  clear hb HA
  go_upto_region 5 with fail
  have hp := HP.out _ rfl
  generalize w1.alloc (.cells #[.int .i64 0, .int .i64 A] 29) = W at *
  obtain ⟨p1, p2, p3, p4⟩ := hp
  have hop2 : W.cell? ⟨b, off + k, none⟩ = some (.int .i64 op) := (p3.cell (p := ⟨b, off + k, none⟩) hbl).trans hop
  have HB : Hid (Below w.heap.size w W) := p3
  have x0 := cell_of_row _ _ 0 _ _ _ p2
  have x1 := cell_of_row _ _ 1 _ _ _ p2
  have y0 := cell_of_row _ _ 0 _ _ _ p1
  have y1 := cell_of_row _ _ 1 _ _ _ p1
  have y2 := cell_of_row _ _ 2 _ _ _ p1
  have g0 := frozen_of_row _ _ 0 _ _ p1
  have g1 := frozen_of_row _ _ 1 _ _ p1
  have g2 := frozen_of_row _ _ 2 _ _ p1
  simp at x0 x1 y0 y1 y2
  clear HP p1 p2 p3 p4 hop
  generalize w1.heap.size = g at *
  go_upto_region 8 with fail
  obtain ⟨L, hL⟩ : ∃ L : Nat, L = k + 1 := ⟨_, rfl⟩
  obtain ⟨N, hN⟩ : ∃ N : Nat, N = k + 1 + A := ⟨_, rfl⟩
  have e1 : (k : Int) + 1 + (A : Int) = (N : Int) := by omega
  have z1 : IntKind.i64.wrap ((k : Int) + 1) = (L : Int) := by rw [IntWalk.i64_in _ ⟨by omega, by omega⟩]; omega
  rw [e1]
  have r0 : (0 : Int) ≤ (L : Int) := by omega
  have r1 : (L : Int) ≤ (N : Int) := by omega
  have r2 : (N : Int) ≤ (c : Int) := by omega
  have HN : Hid (N - L = A ∧ L = k + 1 ∧ N = k + 1 + A) := ⟨by omega, hL, hN⟩
  have e2 : N - L = A := HN.out.1
  have HE0 : (k : Int) + 1 + (A : Int) = (N : Int) ∧ n ≤ c ∧ k + A < n := ⟨e1, hc, h2⟩
  clear hL hN e1 hgt hlt hk h2 hn
  have HE : Hid ((k : Int) + 1 + (A : Int) = (N : Int) ∧ n ≤ c ∧ k + A < n) := HE0
  clear HE0 hc
  by_cases hcL : c = L
  · go_region
    go_wp2_with fail
    refine bodyPost_ret (v := .tuple #[oneV op (.slice (some ⟨b, off, none⟩) A 0) N, .bool true]) (by simp [results, Try.results78, go_sem, y0, y1, y2]) rfl ⟨_, _, by rw [HE.out.1], fun h => ?_, ?_⟩
    · have := HN.out; have := HE.out; omega
    · first | exact (((HB.out.setCell (Nat.le_refl _) _).setCell (Nat.le_refl _) _).setCell (Nat.le_refl _) _).drew | exact ((HB.out.setCell (Nat.le_refl _) _).setCell (Nat.le_refl _) _).setCell (Nat.le_refl _) _
  · go_region
    go_wp2_with fail
    refine bodyPost_ret (v := .tuple #[oneV op (.slice (some ⟨b, off + L, none⟩) A (c - L)) N, .bool true]) (by simp [results, Try.results78, go_sem, y0, y1, y2]) rfl ⟨_, _, by rw [HE.out.1], fun h => ?_, ?_⟩
    · rw [HN.out.2.1]
    · first | exact (((HB.out.setCell (Nat.le_refl _) _).setCell (Nat.le_refl _) _).setCell (Nat.le_refl _) _).drew | exact ((HB.out.setCell (Nat.le_refl _) _).setCell (Nat.le_refl _) _).setCell (Nat.le_refl _) _
end Go.Proofs.Ytlofagpffeaebaa
