/-
  spec's register machine in memory.
-/
import Derived.Test.YtcikofhbfncgdaaIStk3
import Derived.Test.YtcikofhbfncgdaaIRgOp
import Derived.Test.YtcikofhbfncgdaaRgM
import Derived.Test.YtcikofhbfncgdaaStkMem
namespace Go.Proofs.Ytcikofhbfncgdaa
open Go.RowKit
set_option linter.unusedVariables false
attribute [local go_sem ↓] Go.wp_at_zero Go.wp_at_succ

abbrev argsRF : Value := .func (.func 44) #[] #[]
abbrev oneZR : Value := .agg #[.int .i64 0, .slice none 0 0, .int .i64 0]

set_option maxHeartbeats 1600000 in
theorem instrR_no1 (a : Option Addr) (n c : Nat) (k : Nat) (w : World) (hk : n ≤ k) (hk2 : k ≤ 65535) (hn : n ≤ 400) :
    Calls Try.prog 108 #[.slice a n c, .int .i64 k, argsRF] w fun e w' => e = .returned (.tuple #[oneZR, .bool false]) ∧ Below w.heap.size w w' := by
  have h1 : decide ((n : Int) ≤ (k : Int)) = true := decide_eq_true (by omega)
  go_enter Try.func108, Try.ntmps108
  go_wp2
  refine bodyPost_ret (v := .tuple #[oneZR, .bool false]) (by simp [results, Try.results108, go_sem]) rfl ⟨rfl, ?_⟩
  go_grown

/-- from the answer of ArgsOfRegs on -/
theorem instrR_pre (w w1 : World) (x y : Int) (hb : Below (w.alloc (.cells #[.int .i64 0, .slice none 0 0, .int .i64 0] 130)).heap.size (w.alloc (.cells #[.int .i64 0, .slice none 0 0, .int .i64 0] 130)) w1) :
    ∀ W, W = w1.alloc (.cells #[.int .i64 x, .int .i64 y] 61) → W.heap[w.heap.size]? = some (.cells #[.int .i64 0, .slice none 0 0, .int .i64 0] 130 (0, 0)) ∧ W.heap[w1.heap.size]? = some (.cells #[.int .i64 x, .int .i64 y] 61 (0, 0)) ∧ Below w.heap.size w W ∧ w.heap.size < w1.heap.size := by
  intro W e
  subst e
  have a1 := heap_alloc_new w (.cells #[.int .i64 0, .slice none 0 0, .int .i64 0] 130)
  have b1 := (Below.refl w.heap.size w).alloc (Nat.le_refl _) (.cells #[.int .i64 0, .slice none 0 0, .int .i64 0] 130)
  have a2 := heap_alloc_new w1 (.cells #[.int .i64 x, .int .i64 y] 61)
  have b2 := (Below.refl w1.heap.size w1).alloc (Nat.le_refl _) (.cells #[.int .i64 x, .int .i64 y] 61)
  have s1 : (w.alloc (.cells #[.int .i64 0, .slice none 0 0, .int .i64 0] 130)).heap.size = w.heap.size + 1 := by simp
  have hs := hb.size
  exact ⟨blk8 (blk8 a1 hb) b2, a2, b1.trans ((hb.mono (by omega)).trans (b2.mono (by omega))), by omega⟩

set_option maxHeartbeats 3200000 in
theorem instrR_no2 (b off n c : Nat) (k : Nat) (op : Int) (w : World) (hk : k < n) (hn : n ≤ 400) (hop : w.cell? ⟨b, off + k, none⟩ = some (.int .i64 op)) (h : inB op 1 13 = false ∨ (inB op 1 13 = true ∧ (n : Int) ≤ k + argR op)) :
    Calls Try.prog 108 #[.slice (some ⟨b, off, none⟩) n c, .int .i64 k, argsRF] w fun e w' => e = .returned (.tuple #[oneZR, .bool false]) ∧ Below w.heap.size w w' := by
  have HA : Hid (∀ W, Calls Try.prog 44 #[.int .i64 op] W fun e w' => e = .returned (.agg #[.int .i64 (if inB op 1 13 then 0 else 3), .int .i64 (if inB op 1 13 then argR op else 0)]) ∧ Below W.heap.size W w') := implArgsR op
  have ha := argR_lo op
  generalize argR op = A at *
  obtain ⟨A0, A1⟩ := ha
  have hlt : decide ((n : Int) ≤ (k : Int)) = false := decide_eq_false (by omega)
  have hbl := World.block_lt_of_cell? _ _ hop
  have q0 : (0 : Int) ≤ (k : Int) := by omega
  have q1 : (k : Int) < (n : Int) := by omega
  rcases h with h | ⟨h, h2⟩
  · rw [h, if_neg (by simp), if_neg (by simp)] at HA
    clear h
    go_enter Try.func108, Try.ntmps108
    go_wp2_with fail
    refine (HA.out _).mono ?_
    rintro e w1 ⟨rfl, hb⟩
    have HP : Hid (∀ W, W = w1.alloc (.cells #[.int .i64 3, .int .i64 0] 61) → _) := instrR_pre w w1 3 0 hb
    clear hb HA
    go_upto_region 5 with fail
    have hp := HP.out _ rfl
    generalize w1.alloc (.cells #[.int .i64 3, .int .i64 0] 61) = W at *
    obtain ⟨p1, p2, p3, p4⟩ := hp
    have HB : Hid (Below w.heap.size w W) := p3
    have x0 := cell_of_row _ _ 0 _ _ _ p2
    have x1 := cell_of_row _ _ 1 _ _ _ p2
    have y0 := cell_of_row _ _ 0 _ _ _ p1
    have y1 := cell_of_row _ _ 1 _ _ _ p1
    have y2 := cell_of_row _ _ 2 _ _ _ p1
    have g0 := frozen_of_row _ _ 0 _ _ p1
    have g1 := frozen_of_row _ _ 1 _ _ p1
    have g2 := frozen_of_row _ _ 2 _ _ p1
    simp at x0 x1 y0 y1 y2
    clear HP p1 p2 p3 p4 hop
    generalize w1.heap.size = g at *
    go_wp2_with fail
    refine bodyPost_ret (v := .tuple #[oneZR, .bool false]) (by simp [results, Try.results108, go_sem, y0, y1, y2]) rfl ⟨rfl, ?_⟩
    exact ((HB.out.setCell (Nat.le_refl _) _).setCell (Nat.le_refl _) _).setCell (Nat.le_refl _) _
  · rw [h, if_pos rfl, if_pos rfl] at HA
    clear h
    have hgt : decide ((n : Int) < (k : Int) + 1 + A) = true := decide_eq_true (by omega)
    go_enter Try.func108, Try.ntmps108
    go_wp2_with fail
    refine (HA.out _).mono ?_
    rintro e w1 ⟨rfl, hb⟩
    have HP : Hid (∀ W, W = w1.alloc (.cells #[.int .i64 0, .int .i64 A] 61) → _) := instrR_pre w w1 0 A hb
    clear hb HA
    go_upto_region 5 with fail
    have hp := HP.out _ rfl
    generalize w1.alloc (.cells #[.int .i64 0, .int .i64 A] 61) = W at *
    obtain ⟨p1, p2, p3, p4⟩ := hp
    have HB : Hid (Below w.heap.size w W) := p3
    have x0 := cell_of_row _ _ 0 _ _ _ p2
    have x1 := cell_of_row _ _ 1 _ _ _ p2
    have y0 := cell_of_row _ _ 0 _ _ _ p1
    have y1 := cell_of_row _ _ 1 _ _ _ p1
    have y2 := cell_of_row _ _ 2 _ _ _ p1
    have g0 := frozen_of_row _ _ 0 _ _ p1
    have g1 := frozen_of_row _ _ 1 _ _ p1
    have g2 := frozen_of_row _ _ 2 _ _ p1
    simp at x0 x1 y0 y1 y2
    clear HP p1 p2 p3 p4 hop
    generalize w1.heap.size = g at *
    go_wp2_with fail
    refine bodyPost_ret (v := .tuple #[oneZR, .bool false]) (by simp [results, Try.results108, go_sem, y0, y1, y2]) rfl ⟨rfl, ?_⟩
    exact ((HB.out.setCell (Nat.le_refl _) _).setCell (Nat.le_refl _) _).setCell (Nat.le_refl _) _

set_option maxHeartbeats 3200000 in
set_option maxRecDepth 100000 in
theorem instrR_yes (b off n c : Nat) (k A : Nat) (op : Int) (w : World) (hk : k < n) (hn : n ≤ 400) (hc : n ≤ c) (hop : w.cell? ⟨b, off + k, none⟩ = some (.int .i64 op)) (h : inB op 1 13 = true) (hA : argR op = A) (h2 : k + A < n) :
    Calls Try.prog 108 #[.slice (some ⟨b, off, none⟩) n c, .int .i64 k, argsRF] w fun e w' => ∃ a2 c2, e = .returned (.tuple #[oneV op (.slice a2 A c2) ((k : Int) + 1 + A), .bool true]) ∧ (1 ≤ A → a2 = some ⟨b, off + (k + 1), none⟩) ∧ Below w.heap.size w w' := by
  have HA : Hid (∀ W, Calls Try.prog 44 #[.int .i64 op] W fun e w' => e = .returned (.agg #[.int .i64 (if inB op 1 13 then 0 else 3), .int .i64 (if inB op 1 13 then argR op else 0)]) ∧ Below W.heap.size W w') := implArgsR op
  rw [h, if_pos rfl, if_pos rfl, hA] at HA
  have ha := argR_lo op
  rw [hA] at ha
  clear h hA
  have hlt : decide ((n : Int) ≤ (k : Int)) = false := decide_eq_false (by omega)
  have hbl := World.block_lt_of_cell? _ _ hop
  have q0 : (0 : Int) ≤ (k : Int) := by omega
  have q1 : (k : Int) < (n : Int) := by omega
  have A0 : (0 : Int) ≤ (A : Int) := by omega
  have A1 : (A : Int) ≤ 4 := ha.2
  clear ha
  have hgt : decide ((n : Int) < (k : Int) + 1 + A) = false := decide_eq_false (by omega)
  go_enter Try.func108, Try.ntmps108
  go_wp2_with fail
  refine (HA.out _).mono ?_
  rintro e w1 ⟨rfl, hb⟩
  have HP : Hid (∀ W, W = w1.alloc (.cells #[.int .i64 0, .int .i64 A] 61) → _) := instrR_pre w w1 0 A hb
  clear hb HA
  go_upto_region 5 with fail
  have hp := HP.out _ rfl
  generalize w1.alloc (.cells #[.int .i64 0, .int .i64 A] 61) = W at *
  obtain ⟨p1, p2, p3, p4⟩ := hp
  have hop2 : W.cell? ⟨b, off + k, none⟩ = some (.int .i64 op) := (p3.cell (p := ⟨b, off + k, none⟩) hbl).trans hop
  have HB : Hid (Below w.heap.size w W) := p3
  have x0 := cell_of_row _ _ 0 _ _ _ p2
  have x1 := cell_of_row _ _ 1 _ _ _ p2
  have y0 := cell_of_row _ _ 0 _ _ _ p1
  have y1 := cell_of_row _ _ 1 _ _ _ p1
  have y2 := cell_of_row _ _ 2 _ _ _ p1
  have g0 := frozen_of_row _ _ 0 _ _ p1
  have g1 := frozen_of_row _ _ 1 _ _ p1
  have g2 := frozen_of_row _ _ 2 _ _ p1
  simp at x0 x1 y0 y1 y2
  clear HP p1 p2 p3 p4 hop
  generalize w1.heap.size = g at *
  go_upto_region 8 with fail
  obtain ⟨L, hL⟩ : ∃ L : Nat, L = k + 1 := ⟨_, rfl⟩
  obtain ⟨N, hN⟩ : ∃ N : Nat, N = k + 1 + A := ⟨_, rfl⟩
  have e1 : (k : Int) + 1 + (A : Int) = (N : Int) := by omega
  have z1 : IntKind.i64.wrap ((k : Int) + 1) = (L : Int) := by rw [IntWalk.i64_in _ ⟨by omega, by omega⟩]; omega
  rw [e1]
  have r0 : (0 : Int) ≤ (L : Int) := by omega
  have r1 : (L : Int) ≤ (N : Int) := by omega
  have r2 : (N : Int) ≤ (c : Int) := by omega
  have HN : Hid (N - L = A ∧ L = k + 1 ∧ N = k + 1 + A) := ⟨by omega, hL, hN⟩
  have e2 : N - L = A := HN.out.1
  have HE0 : (k : Int) + 1 + (A : Int) = (N : Int) ∧ n ≤ c ∧ k + A < n := ⟨e1, hc, h2⟩
  clear hL hN e1 hgt hlt hk h2 hn
  have HE : Hid ((k : Int) + 1 + (A : Int) = (N : Int) ∧ n ≤ c ∧ k + A < n) := HE0
  clear HE0 hc
  by_cases hcL : c = L
  · go_region
    go_wp2_with fail
    refine bodyPost_ret (v := .tuple #[oneV op (.slice (some ⟨b, off, none⟩) A 0) N, .bool true]) (by simp [results, Try.results108, go_sem, y0, y1, y2]) rfl ⟨_, _, by rw [HE.out.1], fun h => ?_, ?_⟩
    · have := HN.out; have := HE.out; omega
    · first | exact (((HB.out.setCell (Nat.le_refl _) _).setCell (Nat.le_refl _) _).setCell (Nat.le_refl _) _).drew | exact ((HB.out.setCell (Nat.le_refl _) _).setCell (Nat.le_refl _) _).setCell (Nat.le_refl _) _
  · go_region
    go_wp2_with fail
    refine bodyPost_ret (v := .tuple #[oneV op (.slice (some ⟨b, off + L, none⟩) A (c - L)) N, .bool true]) (by simp [results, Try.results108, go_sem, y0, y1, y2]) rfl ⟨_, _, by rw [HE.out.1], fun h => ?_, ?_⟩
    · rw [HN.out.2.1]
    · first | exact (((HB.out.setCell (Nat.le_refl _) _).setCell (Nat.le_refl _) _).setCell (Nat.le_refl _) _).drew | exact ((HB.out.setCell (Nat.le_refl _) _).setCell (Nat.le_refl _) _).setCell (Nat.le_refl _) _
end Go.Proofs.Ytcikofhbfncgdaa
namespace Go.Proofs.Ytcikofhbfncgdaa
open Go.RowKit
set_option linter.unusedVariables false

/-- a word behind an op: a register, a cell, or neither -/
def okC (ch : UInt8) (x : Int) (n : Nat) : Bool := if ch = 114 then decide (x < 24) else if ch = 99 then decide (x < n) else true
theorem all0 {P : Nat → Prop} : (∀ i, i < 0 → P i) ↔ True := ⟨fun _ => trivial, fun _ i h => absurd h (by omega)⟩
theorem all1 {P : Nat → Prop} : (∀ i, i < 1 → P i) ↔ P 0 := ⟨fun h => h 0 (by omega), fun a i h => by
  match i, h with
  | 0, _ => exact a
  | k + 1, h => exact absurd h (by omega)⟩
theorem all2 {P : Nat → Prop} : (∀ i, i < 2 → P i) ↔ P 0 ∧ P 1 := ⟨fun h => ⟨h 0 (by omega), h 1 (by omega)⟩, fun ⟨a, b⟩ i h => by
  match i, h with
  | 0, _ => exact a
  | 1, _ => exact b
  | k + 2, h => exact absurd h (by omega)⟩
theorem all4 {P : Nat → Prop} : (∀ i, i < 4 → P i) ↔ P 0 ∧ P 1 ∧ P 2 ∧ P 3 := ⟨fun h => ⟨h 0 (by omega), h 1 (by omega), h 2 (by omega), h 3 (by omega)⟩, fun ⟨a, b, c, d⟩ i h => by
  match i, h with
  | 0, _ => exact a
  | 1, _ => exact b
  | 2, _ => exact c
  | 3, _ => exact d
  | k + 4, h => exact absurd h (by omega)⟩
theorem op13 {op : Int} (h1 : 1 ≤ op) (h13 : op ≤ 13) : op = 1 ∨ op = 2 ∨ op = 3 ∨ op = 4 ∨ op = 5 ∨ op = 6 ∨ op = 7 ∨ op = 8 ∨ op = 9 ∨ op = 10 ∨ op = 11 ∨ op = 12 ∨ op = 13 := by omega
theorem hasR_ok {op : Int} (h1 : 1 ≤ op) (h13 : op ≤ 13) (f : Nat → Int) (n : Nat) : hasR op (f 0) (f 1) (f 2) n = true ↔ ∀ i, i < (ropWd op).length → okC ((ropWd op).getD i 0) (f i) n = true := by
  rcases op13 h1 h13 with rfl | rfl | rfl | rfl | rfl | rfl | rfl | rfl | rfl | rfl | rfl | rfl | rfl
  · show hasR 1 _ _ _ _ = true ↔ ∀ i, i < 2 → _; rw [all2]; simp [hasR, ropWd, okC]
  · show hasR 2 _ _ _ _ = true ↔ ∀ i, i < 2 → _; rw [all2]; simp [hasR, ropWd, okC]
  · show hasR 3 _ _ _ _ = true ↔ ∀ i, i < 2 → _; rw [all2]; simp [hasR, ropWd, okC]; exact And.comm
  · show hasR 4 _ _ _ _ = true ↔ ∀ i, i < 4 → _; rw [all4]; simp [hasR, ropWd, okC]
  · show hasR 5 _ _ _ _ = true ↔ ∀ i, i < 4 → _; rw [all4]; simp [hasR, ropWd, okC]
  · show hasR 6 _ _ _ _ = true ↔ ∀ i, i < 4 → _; rw [all4]; simp [hasR, ropWd, okC, and_assoc]
  · show hasR 7 _ _ _ _ = true ↔ ∀ i, i < 2 → _; rw [all2]; simp [hasR, ropWd, okC]
  · show hasR 8 _ _ _ _ = true ↔ ∀ i, i < 2 → _; rw [all2]; simp [hasR, ropWd, okC]
  · show hasR 9 _ _ _ _ = true ↔ ∀ i, i < 1 → _; rw [all1]; simp [hasR, ropWd, okC]
  · show hasR 10 _ _ _ _ = true ↔ ∀ i, i < 1 → _; rw [all1]; simp [hasR, ropWd, okC]
  · show hasR 11 _ _ _ _ = true ↔ ∀ i, i < 2 → _; rw [all2]; simp [hasR, ropWd, okC]
  · show hasR 12 _ _ _ _ = true ↔ ∀ i, i < 1 → _; rw [all1]; simp [hasR, ropWd, okC]
  · show hasR 13 _ _ _ _ = true ↔ ∀ i, i < 0 → _; rw [all0]; simp [hasR]
theorem ropWd_mem {op : Int} (h1 : 1 ≤ op) (h13 : op ≤ 13) : ∀ ch ∈ ropWd op, ch = 114 ∨ ch = 99 ∨ ch = 45 := by
  rcases op13 h1 h13 with rfl | rfl | rfl | rfl | rfl | rfl | rfl | rfl | rfl | rfl | rfl | rfl | rfl <;> simp [ropWd]
end Go.Proofs.Ytcikofhbfncgdaa
namespace Go.Proofs.Ytcikofhbfncgdaa
open Go.RowKit
set_option linter.unusedVariables false

/-- spec's machine, in block p -/
def RunT (B : Nat) (w : World) (p : Nat) (m : SM) : Prop := ∃ sv cv, w.heap[p]? = some (.cells (lineS m sv cv) 28 (0, 0)) ∧ MemO B w p sv cv m
theorem RunT.kept {B p : Nat} {w w' : World} {m : SM} (h : RunT B w p m) (hb : Below w.heap.size w w') : RunT B w' p m := by
  obtain ⟨sv, cv, hl, hm⟩ := h
  exact ⟨sv, cv, blk8 hl hb, hm.of (fun g hg _ => hb.block g hg) rfl rfl⟩
theorem RunT.fld {B p : Nat} {w : World} {m m' : SM} (h : RunT B w p m) (i : Nat) (v : Value) (hf : ∀ sv cv, (lineS m sv cv).setIfInBounds i v = lineS m' sv cv) (e1 : m'.stk = m.stk) (e2 : m'.cells = m.cells) : RunT B (w.setCell ⟨p, i, none⟩ v) p m' := by
  obtain ⟨sv, cv, hl, hm⟩ := h
  refine ⟨sv, cv, ?_, hm.of (fun g hg hne => heap_setCell_other _ _ _ _ hne) e1 e2⟩
  have := heap_setCell_same w p i _ _ v hl
  rw [hf sv cv] at this
  exact this
theorem RunT.heap {B p : Nat} {w w' : World} {m : SM} (h : RunT B w p m) (e : w'.heap = w.heap) : RunT B w' p m := by
  obtain ⟨sv, cv, hl, hm⟩ := h
  exact ⟨sv, cv, by rw [e]; exact hl, hm.heap e⟩
theorem RunT.lt {B p : Nat} {w : World} {m : SM} (h : RunT B w p m) : B ≤ p ∧ p < w.heap.size := by
  obtain ⟨sv, cv, hb, hm⟩ := h
  exact ⟨hm.pB, (Array.getElem?_eq_some_iff.1 hb).1⟩
theorem RunT.cells {p : Nat} {w : World} {m : SM} {sv cv : Value} (h : w.heap[p]? = some (.cells (lineS m sv cv) 28 (0, 0))) :
    w.cell? ⟨p, 0, none⟩ = some (.int .i64 m.pc) ∧ w.cell? ⟨p, 1, none⟩ = some sv ∧ w.cell? ⟨p, 2, none⟩ = some cv ∧ w.cell? ⟨p, 3, none⟩ = some (.int .i64 m.sig) ∧ w.cell? ⟨p, 4, none⟩ = some (.int .i64 m.used) ∧ w.cell? ⟨p, 5, none⟩ = some (.int .i64 m.trap) ∧ w.cell? ⟨p, 6, none⟩ = some (.bool m.done) :=
  ⟨cell_of_row _ _ 0 _ _ _ h, cell_of_row _ _ 1 _ _ _ h, cell_of_row _ _ 2 _ _ _ h, cell_of_row _ _ 3 _ _ _ h, cell_of_row _ _ 4 _ _ _ h, cell_of_row _ _ 5 _ _ _ h, cell_of_row _ _ 6 _ _ _ h⟩
/-- a word is stored into a register -/
theorem MemO.reg {B p g n c k : Nat} {w : World} {cv : Value} {m : SM} (h : MemO B w p (.slice (some ⟨g, 0, none⟩) n c) cv m) (x : Int) : MemO B (w.setCell ⟨g, k, none⟩ (.int .i64 x)) p (.slice (some ⟨g, 0, none⟩) n c) cv { m with stk := m.stk.set k x } :=
  ⟨own_put h.ss x, own_other h.cs (fun j hj => heap_setCell_other _ _ _ _ (fun e => h.d3 g rfl (by rw [hj, e]))), h.pB, h.d1, h.d2, h.d3⟩
end Go.Proofs.Ytcikofhbfncgdaa
