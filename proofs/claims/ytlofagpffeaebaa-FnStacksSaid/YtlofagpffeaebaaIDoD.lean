/-
  impl's do: ops 7, 8, 9.
-/
import Derived.Test.YtlofagpffeaebaaIDo0
namespace Go.Proofs.Ytlofagpffeaebaa
open Go.RowKit
set_option linter.unusedVariables false
attribute [local go_sem ↓] Go.wp_at_zero Go.wp_at_succ

set_option maxHeartbeats 1600000 in
set_option maxRecDepth 100000 in
theorem do_7 (B p : Nat) (m : SM) (op u v nx : Int) (t : Nat) (wv : Value) (w : World) (hop : op = 7) (h : RunI B w p m) (hl : m.cells.length ≤ 80) (hs : m.stk.length ≤ 40) (h0 : 0 < m.stk.length) (hw : WordsV B w wv op u v) :
    Calls Try.prog 83 #[.pointer (some ⟨p, 0, none⟩), oneV op wv nx, .int .i64 t] w fun e w' => e = .returned (.tuple #[]) ∧ RunI B w' p (doM op u t m) ∧ Below B w w' := by
  have hD : doM op u t m = psh (pop m) (wd (-(tp m 0))) := by subst hop; rfl
  rw [hD]
  clear hD
  obtain ⟨a, c, rfl, _⟩ := hw
  generalize (argN op).toNat = n at *
  have hX : Hid (∀ W, W = w.alloc (.cells #[.int .i64 op, .slice a n c, .int .i64 nx] 118) → _) := fun W e => do_pre B p n a c m op nx w W h e
  have hBp := h.lt
  have hT : (op == 1) = false ∧ (op == 2) = false ∧ (op == 3) = false ∧ (op == 4) = false ∧ (op == 5) = false ∧ (op == 6) = false ∧ (op == 7) = true := by subst hop; exact ⟨rfl, rfl, rfl, rfl, rfl, rfl, rfl⟩
  clear hop h
  obtain ⟨e1, e2, e3, e4, e5, e6, e7⟩ := hT
  go_enter Try.func83, Try.ntmps83
  go_upto_region 19 with fail
  have hXX := hX.out _ rfl
  generalize w.alloc (.cells #[.int .i64 op, .slice a n c, .int .i64 nx] 118) = W at *
  obtain ⟨y0, y1, x3, x4, x5, x6⟩ := hXX
  have HB : Hid (Below B w W) := x4
  have HR : Hid (RunI B W p m) := x3
  have HL : Hid (w.heap.size < W.heap.size) := x6
  clear x3 x4 x5 x6 hX
  have h38 : (pop m).stk.length ≤ 40 := by rw [pop_len]; omega
  go_region_with (first | (go_at_call 107; refine (take_any B p m _ (HR.out.heap (by rfl)) h0 hs).mono ?_; rintro e w3 ⟨rfl, hr, hb, _⟩) | (go_at_call 108; refine (implNegOf _ _).mono ?_; rintro e w4 ⟨rfl, rfl⟩) | (go_at_call 104; refine (put_any B p (pop m) _ _ (by assumption) h38).mono ?_; rintro e w5 ⟨rfl, hr5, hb5⟩))
  all_goals
    clear y1 y0
    go_wp2_with fail
    go_end0
    exact ⟨rfl, hr5, (HB.out.drew.trans hb).trans hb5⟩


set_option maxHeartbeats 1600000 in
set_option maxRecDepth 100000 in
theorem do_8 (B p : Nat) (m : SM) (op u v nx : Int) (t : Nat) (wv : Value) (w : World) (hop : op = 8) (h : RunI B w p m) (hl : m.cells.length ≤ 80) (hs : m.stk.length ≤ 40) (h0 : 0 < m.stk.length) (hw : WordsV B w wv op u v) :
    Calls Try.prog 83 #[.pointer (some ⟨p, 0, none⟩), oneV op wv nx, .int .i64 t] w fun e w' => e = .returned (.tuple #[]) ∧ RunI B w' p (doM op u t m) ∧ Below B w w' := by
  have hD : doM op u t m = psh (pop m) (nt (tp m 0)) := by subst hop; rfl
  rw [hD]
  clear hD
  obtain ⟨a, c, rfl, _⟩ := hw
  generalize (argN op).toNat = n at *
  have hX : Hid (∀ W, W = w.alloc (.cells #[.int .i64 op, .slice a n c, .int .i64 nx] 118) → _) := fun W e => do_pre B p n a c m op nx w W h e
  have hBp := h.lt
  have hT : (op == 1) = false ∧ (op == 2) = false ∧ (op == 3) = false ∧ (op == 4) = false ∧ (op == 5) = false ∧ (op == 6) = false ∧ (op == 7) = false ∧ (op == 8) = true := by subst hop; exact ⟨rfl, rfl, rfl, rfl, rfl, rfl, rfl, rfl⟩
  clear hop h
  obtain ⟨e1, e2, e3, e4, e5, e6, e7, e8⟩ := hT
  go_enter Try.func83, Try.ntmps83
  go_upto_region 21 with fail
  have hXX := hX.out _ rfl
  generalize w.alloc (.cells #[.int .i64 op, .slice a n c, .int .i64 nx] 118) = W at *
  obtain ⟨y0, y1, x3, x4, x5, x6⟩ := hXX
  have HB : Hid (Below B w W) := x4
  have HR : Hid (RunI B W p m) := x3
  have HL : Hid (w.heap.size < W.heap.size) := x6
  clear x3 x4 x5 x6 hX
  have h38 : (pop m).stk.length ≤ 40 := by rw [pop_len]; omega
  go_region_with (first | (go_at_call 107; refine (take_any B p m _ (HR.out.heap (by rfl)) h0 hs).mono ?_; rintro e w3 ⟨rfl, hr, hb, _⟩) | (go_at_call 109; refine (implNotOf _ _).mono ?_; rintro e w4 ⟨rfl, rfl⟩) | (go_at_call 104; refine (put_any B p (pop m) _ _ (by assumption) h38).mono ?_; rintro e w5 ⟨rfl, hr5, hb5⟩))
  all_goals
    clear y1 y0
    go_wp2_with fail
    go_end0
    exact ⟨rfl, hr5, (HB.out.drew.trans hb).trans hb5⟩


set_option maxHeartbeats 1600000 in
set_option maxRecDepth 100000 in
theorem do_9 (B p : Nat) (m : SM) (op u v nx : Int) (t : Nat) (wv : Value) (w : World) (hop : op = 9) (h : RunI B w p m) (hl : m.cells.length ≤ 80) (hs : m.stk.length ≤ 40) (h0 : 0 < m.stk.length) (hw : WordsV B w wv op u v) :
    Calls Try.prog 83 #[.pointer (some ⟨p, 0, none⟩), oneV op wv nx, .int .i64 t] w fun e w' => e = .returned (.tuple #[]) ∧ RunI B w' p (doM op u t m) ∧ Below B w w' := by
  have hD : doM op u t m = psh (pop m) (b01 (decide (tp m 0 ≠ 0))) := by subst hop; rfl
  rw [hD]
  clear hD
  have e0 : (tp m 0 != 0) = decide (tp m 0 ≠ 0) := by by_cases h : tp m 0 = 0 <;> simp [h]
  generalize decide (tp m 0 ≠ 0) = q at *
  obtain ⟨a, c, rfl, _⟩ := hw
  generalize (argN op).toNat = n at *
  have hX : Hid (∀ W, W = w.alloc (.cells #[.int .i64 op, .slice a n c, .int .i64 nx] 118) → _) := fun W e => do_pre B p n a c m op nx w W h e
  have hBp := h.lt
  have hT : (op == 1) = false ∧ (op == 2) = false ∧ (op == 3) = false ∧ (op == 4) = false ∧ (op == 5) = false ∧ (op == 6) = false ∧ (op == 7) = false ∧ (op == 8) = false ∧ (op == 9) = true := by subst hop; exact ⟨rfl, rfl, rfl, rfl, rfl, rfl, rfl, rfl, rfl⟩
  clear hop h
  obtain ⟨e1, e2, e3, e4, e5, e6, e7, e8, e9⟩ := hT
  go_enter Try.func83, Try.ntmps83
  go_upto_region 23 with fail
  have hXX := hX.out _ rfl
  generalize w.alloc (.cells #[.int .i64 op, .slice a n c, .int .i64 nx] 118) = W at *
  obtain ⟨y0, y1, x3, x4, x5, x6⟩ := hXX
  have HB : Hid (Below B w W) := x4
  have HR : Hid (RunI B W p m) := x3
  have HL : Hid (w.heap.size < W.heap.size) := x6
  clear x3 x4 x5 x6 hX
  have h38 : (pop m).stk.length ≤ 40 := by rw [pop_len]; omega
  go_region_with (first | (go_at_call 107; refine (take_any B p m _ (HR.out.heap (by rfl)) h0 hs).mono ?_; rintro e w3 ⟨rfl, hr, hb, _⟩) | (go_at_call 110; refine (itruth_any _ _).mono ?_; rintro e w4 ⟨rfl, rfl⟩) | (go_at_call 104; refine (put_any B p (pop m) _ _ (by assumption) h38).mono ?_; rintro e w5 ⟨rfl, hr5, hb5⟩))
  all_goals
    clear y1 y0
    go_wp2_with fail
    go_end0
    exact ⟨rfl, hr5, (HB.out.drew.trans hb).trans hb5⟩

end Go.Proofs.Ytlofagpffeaebaa
